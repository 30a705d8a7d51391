/- ValueOrders: Less is a strict order of numbers, Equal tells 1 of a value and itself alone. -/
import Derived.Test.YtmbigmankefedaaFrame
import Derived.Test.YtmbigmankefedaaTail
import Derived.Test.YtmbigmankefedaaValD
namespace Go.Proofs.Ytmbigmankefedaa
open Go.ChangeShapes Go.WideShapes Go.ChangeAt Go.RowKit
namespace Ord

open Val Go.Joins

attribute [local go_sem ↓] run_eql_val run_neq_val

/-- The numbers of pair m. -/
def pu (a b : Int) (m : Nat) : Int := if m = 1 then b else a
def pv (b c : Int) (m : Nat) : Int := if m = 0 then b else c
/-- What is known of the first m pairs. -/
def lessL (a b c : Int) (m : Nat) : List Value := [.bool (decide (0 < m) && decide (a < b)), .bool (decide (1 < m) && decide (b < c)), .bool (decide (2 < m) && decide (a < c))]
def Rel (w : World) (a b c k n k' n' : Int) (i : Value) (wr : World) : Prop := ∃ m : Nat, m ≤ 3 ∧ i = .int .i64 m ∧ Has wr w.heap.size [.int .i64 k, .int .i64 n] ∧ Has wr (w.heap.size + 1) [.int .i64 k', .int .i64 n'] ∧ Has wr (w.heap.size + 1 + 1) (lessL a b c m) ∧ Has wr (w.heap.size + 1 + 1 + 1) [.int .i64 a, .int .i64 b, .int .i64 b, .int .i64 c, .int .i64 a, .int .i64 c] ∧ Below w.heap.size w wr

theorem pairs_at {W : World} {b0 : Nat} {a b c : Int} {m : Nat} (hm : m < 3) (h : Has W b0 [.int .i64 a, .int .i64 b, .int .i64 b, .int .i64 c, .int .i64 a, .int .i64 c]) : W.cell? ⟨b0, m * 2, none⟩ = some (.int .i64 (pu a b m)) ∧ W.cell? ⟨b0, m * 2 + 1, none⟩ = some (.int .i64 (pv b c m)) := by
  obtain rfl | rfl | rfl : m = 0 ∨ m = 1 ∨ m = 2 := by omega
  · exact ⟨h.here 0 _ rfl, h.here 1 _ rfl⟩
  · exact ⟨h.here 2 _ rfl, h.here 3 _ rfl⟩
  · exact ⟨h.here 4 _ rfl, h.here 5 _ rfl⟩
theorem less_len (a b c : Int) (m : Nat) : (lessL a b c m).length = 3 := rfl
theorem less_set (a b c : Int) (m : Nat) (hm : m < 3) (x : Bool) (hx : decide (pu a b m < pv b c m) = x) : (lessL a b c m).set m (.bool x) = lessL a b c (m + 1) := by
  subst hx
  obtain rfl | rfl | rfl : m = 0 ∨ m = 1 ∨ m = 2 := by omega
  · simp [lessL, pu, pv]
  · simp [lessL, pu, pv]
  · simp [lessL, pu, pv]
theorem less_c (u v x : Int) (hx : truthI (decide (u < v)) = x) (w : World) : Calls Try.prog 29 #[.agg #[.int .i64 1, .int .i64 u], .agg #[.int .i64 1, .int .i64 v]] w (Ret (.tuple #[.agg #[.int .i64 1, .int .i64 x], .int .i64 0]) w) := by
  subst hx
  exact less_any 1 u 1 v w
theorem equal_self (k n : Int) (w : World) : Calls Try.prog 31 #[.agg #[.int .i64 k, .int .i64 n], .agg #[.int .i64 k, .int .i64 n]] w (Ret (.agg #[.int .i64 1, .int .i64 1]) w) := by
  have h := equal_any k n k n w
  rwa [show truthI (k == k && n == n) = 1 by simp [truthI]] at h
theorem equal_y (k n k' n' : Int) (hB : (k == k' && n == n') = true) (w : World) : Calls Try.prog 31 #[.agg #[.int .i64 k, .int .i64 n], .agg #[.int .i64 k', .int .i64 n']] w (Ret (.agg #[.int .i64 1, .int .i64 1]) w) := by
  have h := equal_any k n k' n' w
  rwa [hB, show truthI true = 1 from rfl] at h
theorem equal_n (k n k' n' : Int) (hB : (k == k' && n == n') = false) (w : World) : Calls Try.prog 31 #[.agg #[.int .i64 k, .int .i64 n], .agg #[.int .i64 k', .int .i64 n']] w (Ret (.agg #[.int .i64 1, .int .i64 0]) w) := by
  have h := equal_any k n k' n' w
  rwa [hB, show truthI false = 0 from rfl] at h
theorem equal_c (u v x : Int) (hx : truthI (1 == (1 : Int) && u == v) = x) (w : World) : Calls Try.prog 31 #[.agg #[.int .i64 1, .int .i64 u], .agg #[.int .i64 1, .int .i64 v]] w (Ret (.agg #[.int .i64 1, .int .i64 x]) w) := by
  subst hx
  exact equal_any 1 u 1 v w

set_option maxRecDepth 100000 in
set_option maxHeartbeats 8000000 in
theorem walk (a b c k n k' n' : Int) (w : World) :
    Calls Try.prog 7 #[.int .i64 a, .int .i64 b, .int .i64 c, .agg #[.int .i64 k, .int .i64 n], .agg #[.int .i64 k', .int .i64 n']] w (Ret (.bool true) w) := by
  go_enter Try.func7, Try.ntmps7
  go_wp2_with fail
  refine wp_re (fun W => Rel w a b c k n k' n' (.int .i64 0) W) ⟨0, by omega, rfl, (((Has.new _ _ _).alloc _).alloc _).alloc _, ((Has.newAt (by simp)).alloc _).alloc _, (Has.newAt (by simp)).alloc _, Has.newAt (by simp), outA (outA (outA (outA (Below.refl _ _) _) _) _) _⟩ ?_
  intro W1 hR x1
  replace hR : Rel w a b c k n k' n' (.int .i64 0) x1.w := by
    obtain ⟨m, h1, h2, h3, h4, h5, h6, h7⟩ := hR
    exact ⟨m, h1, h2, h3.ext _, h4.ext _, h5.ext _, h6.ext _, x1.out h7⟩
  generalize x1.w = wx at *
  go_loopw [13] (fun i wr => Rel w a b c k n k' n' i wr) (fun i _ => 3 - (intOf i).toNat)
  case atStart => exact hR
  case round =>
    obtain ⟨m, hm, rfl, b0, b1, b2, b3, hbl⟩ := hrel
    by_cases hlt : m < 3
    · obtain ⟨u, hu0⟩ : ∃ u, pu a b m = u := ⟨_, rfl⟩
      obtain ⟨v, hv0⟩ : ∃ v, pv b c m = v := ⟨_, rfl⟩
      have Hu := Lib.hid hu0
      have Hv := Lib.hid hv0
      clear hu0 hv0
      by_cases h1 : u < v
      · skip
        go_wp2_with fail
        refine wp_cl fun x => ?_
        have hm0 : (0 : Int) ≤ (m : Int) := Int.natCast_nonneg _
        have hm1 : (m : Int) < (3 : Int) := by omega
        refine region_tail 14 Try.func22 rfl (by kernel_rfl) (by kernel_rfl) (by kernel_rfl) (fun _ _ d _ _ h => by cases d <;> exact h) (fun X => ?_)
        simp only [List.take_succ_cons, List.take_zero, List.drop_succ_cons, List.drop_zero]
        have bu := fun y : Cl X.w => (pairs_at hlt ((b3.ext X).ext y)).1
        have bv := fun y : Cl X.w => (pairs_at hlt ((b3.ext X).ext y)).2
        rw [Hu.out] at bu
        rw [Hv.out] at bv
        repeat (go_big_quiet_step (first | (go_at_call 18; with_reducible exact calls_cl (number_any _ _)) | (go_at_call 29; with_reducible exact calls_cl (less_c _ _ 1 (by simp [truthI, h1]) _)) | (go_at_call 31; with_reducible exact calls_cl (equal_c _ _ 0 (by simp [truthI] <;> omega) _))))
        refine wpQuiet_nil ?_
        intro yy
        refine wpListE_cons rfl ?_
        go_wp2_with fail
        refine ⟨fun _ => outA (yy.out X.below) _, fun z1 => ?_⟩
        have nb := (Has.new yy.w [.int .i64 0, .int .i64 0] 24).ext z1
        have nc0 := nb.here 0 (.int .i64 0) rfl
        have nf0 := (nb.2 0 (.int .i64 0) rfl).2
        have nc1 := nb.here 1 (.int .i64 0) rfl
        have nf1 := (nb.2 1 (.int .i64 0) rfl).2
        refine wpListE_cons rfl ?_
        go_wp2_with fail
        refine ⟨fun _ => (outS (outS (z1.out (outA (yy.out X.below) _)) (p := ⟨yy.w.heap.size, 0, none⟩) (yy.out X.below).size _) (p := ⟨yy.w.heap.size, 1, none⟩) (yy.out X.below).size _), fun z2 => ?_⟩
        have nd := ((nb.set_ 0 (.int .i64 1) (by simp)).set_ 1 (.int .i64 1) (by simp)).ext z2
        have hB := z2.out (outS (outS (z1.out (outA (yy.out X.below) _)) (p := ⟨yy.w.heap.size, 0, none⟩) (yy.out X.below).size _) (p := ⟨yy.w.heap.size, 1, none⟩) (yy.out X.below).size _)
        clear nb nc0 nc1 nf0 nf1 bu bv
        refine wpListE_cons rfl ?_
        go_wp2_with fail
        refine ⟨fun _ => hB, fun z3 => ?_⟩
        replace nd := nd.ext z3
        replace hB := z3.out hB
        refine wpListE_nil ?_
        go_wp2_with fail
        have hlbx : w.heap.size + 1 + 1 < yy.w.heap.size := (b2.below (yy.out X.below)).lt
        generalize yy.w.heap.size = bx at *
        refine wp_re (fun W => Has W w.heap.size [.int .i64 k, .int .i64 n] ∧ Has W (w.heap.size + 1) [.int .i64 k', .int .i64 n'] ∧ Has W (w.heap.size + 1 + 1) (lessL a b c m) ∧ Has W (w.heap.size + 1 + 1 + 1) [.int .i64 a, .int .i64 b, .int .i64 b, .int .i64 c, .int .i64 a, .int .i64 c] ∧ Has W bx [.int .i64 1, .int .i64 1] ∧ Below w.heap.size w W) ⟨b0.below hB, b1.below hB, b2.below hB, b3.below hB, nd, hbl.trans (hB.mono hbl.size)⟩ ?_
        clear b0 b1 b2 b3 hbl nd hB 
        rintro W2 ⟨b0, b1, b2, b3, hbx, hbl⟩ x
        refine region_tail 14 Try.func22 rfl (by kernel_rfl) (by kernel_rfl) (by kernel_rfl) (fun _ _ d _ _ h => by cases d <;> exact h) (fun X => ?_)
        simp only [List.take_succ_cons, List.take_zero, List.drop_succ_cons, List.drop_zero]
        have bu := fun y : Cl X.w => (pairs_at hlt ((b3.ext X).ext y)).1
        have bv := fun y : Cl X.w => (pairs_at hlt ((b3.ext X).ext y)).2
        rw [Hu.out] at bu
        rw [Hv.out] at bv
        repeat (go_big_quiet_step (first | (go_at_call 18; with_reducible exact calls_cl (number_any _ _)) | (go_at_call 29; with_reducible exact calls_cl (less_c _ _ 0 (by simp [truthI] <;> omega) _)) | (go_at_call 31; with_reducible exact calls_cl (equal_c _ _ 0 (by simp [truthI] <;> omega) _))))
        refine wpQuiet_nil ?_
        intro yy
        refine wpListE_cons rfl ?_
        go_wp2_with fail
        refine ⟨fun _ => outA (yy.out X.below) _, fun z1 => ?_⟩
        have nb := (Has.new yy.w [.int .i64 0, .int .i64 0] 24).ext z1
        have nc0 := nb.here 0 (.int .i64 0) rfl
        have nf0 := (nb.2 0 (.int .i64 0) rfl).2
        have nc1 := nb.here 1 (.int .i64 0) rfl
        have nf1 := (nb.2 1 (.int .i64 0) rfl).2
        refine wpListE_cons rfl ?_
        go_wp2_with fail
        refine ⟨fun _ => (outS (outS (z1.out (outA (yy.out X.below) _)) (p := ⟨yy.w.heap.size, 0, none⟩) (yy.out X.below).size _) (p := ⟨yy.w.heap.size, 1, none⟩) (yy.out X.below).size _), fun z2 => ?_⟩
        have nd := ((nb.set_ 0 (.int .i64 1) (by simp)).set_ 1 (.int .i64 0) (by simp)).ext z2
        have hB := z2.out (outS (outS (z1.out (outA (yy.out X.below) _)) (p := ⟨yy.w.heap.size, 0, none⟩) (yy.out X.below).size _) (p := ⟨yy.w.heap.size, 1, none⟩) (yy.out X.below).size _)
        clear nb nc0 nc1 nf0 nf1 bu bv
        refine wpListE_cons rfl ?_
        go_wp2_with fail
        refine ⟨fun _ => hB, fun z3 => ?_⟩
        replace nd := nd.ext z3
        replace hB := z3.out hB
        refine wpListE_nil ?_
        go_wp2_with fail
        have hlbz : w.heap.size + 1 + 1 < yy.w.heap.size := (b2.below (yy.out X.below)).lt
        generalize yy.w.heap.size = bz at *
        refine wp_re (fun W => Has W w.heap.size [.int .i64 k, .int .i64 n] ∧ Has W (w.heap.size + 1) [.int .i64 k', .int .i64 n'] ∧ Has W (w.heap.size + 1 + 1) (lessL a b c m) ∧ Has W (w.heap.size + 1 + 1 + 1) [.int .i64 a, .int .i64 b, .int .i64 b, .int .i64 c, .int .i64 a, .int .i64 c] ∧ Has W bx [.int .i64 1, .int .i64 1] ∧ Has W bz [.int .i64 1, .int .i64 0] ∧ Below w.heap.size w W) ⟨b0.below hB, b1.below hB, b2.below hB, b3.below hB, hbx.below hB, nd, hbl.trans (hB.mono hbl.size)⟩ ?_
        clear b0 b1 b2 b3 hbl nd hB hbx
        rintro W2 ⟨b0, b1, b2, b3, hbx, hbz, hbl⟩ x
        have bu := fun y : Cl _ => (pairs_at hlt (b3.ext y)).1
        have bv := fun y : Cl _ => (pairs_at hlt (b3.ext y)).2
        rw [Hu.out] at bu
        rw [Hv.out] at bv
        refine region_cl (x := x) (by kernel_rfl) (by kernel_rfl) ?_
        repeat (go_big_quiet_step (first | (go_at_call 18; with_reducible exact calls_cl (number_any _ _)) | (go_at_call 29; with_reducible exact calls_cl (less_c _ _ 1 (by simp [truthI, h1]) _)) | (go_at_call 31; with_reducible exact calls_cl (equal_c _ _ 0 (by simp [truthI] <;> omega) _))))
        refine wpQuiet_nil ?_
        rintro w' ⟨yy, rfl⟩
        have hbx0 := hbx.at_ 0 (.int .i64 1) rfl
        have hbx1 := hbx.at_ 1 (.int .i64 1) rfl
        have hbz0 := hbz.at_ 0 (.int .i64 1) rfl
        have hbz1 := hbz.at_ 1 (.int .i64 0) rfl
        clear bu bv
        go_wp2_with fail
        refine region_last (x := yy) 5 Try.func22 rfl (by kernel_rfl) (by kernel_rfl) (by kernel_rfl) (by kernel_rfl) (fun _ _ d _ _ h => by cases d <;> exact h) (fun X => ?_)
        simp only [List.take_succ_cons, List.take_zero, List.drop_succ_cons, List.drop_zero]
        clear hbx0 hbx1 hbz0 hbz1
        have hbx0 := (hbx.ext X).at_ 0 (.int .i64 1) rfl
        have hbx1 := (hbx.ext X).at_ 1 (.int .i64 1) rfl
        repeat (go_big_quiet_step (first | (go_at_call 18; with_reducible exact calls_cl (number_any _ _))))
        refine wpQuiet_nil ?_
        intro yv
        have hB0 := yv.out X.below
        have hml : m < (lessL a b c m).length := by rw [less_len]; exact hlt
        obtain ⟨s0, s1⟩ := (b2.below hB0).2 m _ (List.getElem?_eq_getElem hml)
        have hcell : ∃ u0, yv.w.cell? ⟨w.heap.size + 1 + 1, m, none⟩ = some u0 := ⟨_, s0⟩
        clear s0
        obtain ⟨u0, s0⟩ := hcell
        refine wpListE_cons rfl ?_
        go_wp2_with fail
        refine ⟨(fun h => by cases h), fun z => ?_⟩
        clear s0 s1
        have hg := grown_ext (grown_set (grown_of hB0 (some (w.heap.size + 1 + 1))) m (.bool true)) z.below
        have nd := ((b2.below hB0).set_ m (.bool true) hml).ext z
        rw [less_set a b c m hlt true (by rw [Hu.out, Hv.out]; simp only [decide_eq_true_eq]; omega)] at nd
        replace b0 := b0.grown hg (by omega)
        replace b1 := b1.grown hg (by omega)
        replace b3 := b3.grown hg (by omega)
        replace hbl := hbl.trans (below_of_grown hg hbl.size (by omega))
        clear b2 hbx hbz hB0 hg hml Hu Hv hbx0 hbx1
        refine wpListE_nil ?_
        go_wp2_with fail
        go_roundw
        case rel => exact ⟨m + 1, by omega, by go_num, b0, b1, nd, b3, hbl⟩
        case measure => simp [intOf]; omega
      · by_cases h2 : u = v
        · subst h2
          go_wp2_with fail
          refine wp_cl fun x => ?_
          have hm0 : (0 : Int) ≤ (m : Int) := Int.natCast_nonneg _
          have hm1 : (m : Int) < (3 : Int) := by omega
          refine region_tail 14 Try.func22 rfl (by kernel_rfl) (by kernel_rfl) (by kernel_rfl) (fun _ _ d _ _ h => by cases d <;> exact h) (fun X => ?_)
          simp only [List.take_succ_cons, List.take_zero, List.drop_succ_cons, List.drop_zero]
          have bu := fun y : Cl X.w => (pairs_at hlt ((b3.ext X).ext y)).1
          have bv := fun y : Cl X.w => (pairs_at hlt ((b3.ext X).ext y)).2
          rw [Hu.out] at bu
          rw [Hv.out] at bv
          repeat (go_big_quiet_step (first | (go_at_call 18; with_reducible exact calls_cl (number_any _ _)) | (go_at_call 29; with_reducible exact calls_cl (less_c _ _ 0 (by simp [truthI] <;> omega) _)) | (go_at_call 31; with_reducible exact calls_cl (equal_c _ _ 1 (by simp [truthI] <;> omega) _))))
          refine wpQuiet_nil ?_
          intro yy
          refine wpListE_cons rfl ?_
          go_wp2_with fail
          refine ⟨fun _ => outA (yy.out X.below) _, fun z1 => ?_⟩
          have nb := (Has.new yy.w [.int .i64 0, .int .i64 0] 24).ext z1
          have nc0 := nb.here 0 (.int .i64 0) rfl
          have nf0 := (nb.2 0 (.int .i64 0) rfl).2
          have nc1 := nb.here 1 (.int .i64 0) rfl
          have nf1 := (nb.2 1 (.int .i64 0) rfl).2
          refine wpListE_cons rfl ?_
          go_wp2_with fail
          refine ⟨fun _ => (outS (outS (z1.out (outA (yy.out X.below) _)) (p := ⟨yy.w.heap.size, 0, none⟩) (yy.out X.below).size _) (p := ⟨yy.w.heap.size, 1, none⟩) (yy.out X.below).size _), fun z2 => ?_⟩
          have nd := ((nb.set_ 0 (.int .i64 1) (by simp)).set_ 1 (.int .i64 0) (by simp)).ext z2
          have hB := z2.out (outS (outS (z1.out (outA (yy.out X.below) _)) (p := ⟨yy.w.heap.size, 0, none⟩) (yy.out X.below).size _) (p := ⟨yy.w.heap.size, 1, none⟩) (yy.out X.below).size _)
          clear nb nc0 nc1 nf0 nf1 bu bv
          refine wpListE_cons rfl ?_
          go_wp2_with fail
          refine ⟨fun _ => hB, fun z3 => ?_⟩
          replace nd := nd.ext z3
          replace hB := z3.out hB
          refine wpListE_nil ?_
          go_wp2_with fail
          have hlbx : w.heap.size + 1 + 1 < yy.w.heap.size := (b2.below (yy.out X.below)).lt
          generalize yy.w.heap.size = bx at *
          refine wp_re (fun W => Has W w.heap.size [.int .i64 k, .int .i64 n] ∧ Has W (w.heap.size + 1) [.int .i64 k', .int .i64 n'] ∧ Has W (w.heap.size + 1 + 1) (lessL a b c m) ∧ Has W (w.heap.size + 1 + 1 + 1) [.int .i64 a, .int .i64 b, .int .i64 b, .int .i64 c, .int .i64 a, .int .i64 c] ∧ Has W bx [.int .i64 1, .int .i64 0] ∧ Below w.heap.size w W) ⟨b0.below hB, b1.below hB, b2.below hB, b3.below hB, nd, hbl.trans (hB.mono hbl.size)⟩ ?_
          clear b0 b1 b2 b3 hbl nd hB 
          rintro W2 ⟨b0, b1, b2, b3, hbx, hbl⟩ x
          refine region_tail 14 Try.func22 rfl (by kernel_rfl) (by kernel_rfl) (by kernel_rfl) (fun _ _ d _ _ h => by cases d <;> exact h) (fun X => ?_)
          simp only [List.take_succ_cons, List.take_zero, List.drop_succ_cons, List.drop_zero]
          have bu := fun y : Cl X.w => (pairs_at hlt ((b3.ext X).ext y)).1
          have bv := fun y : Cl X.w => (pairs_at hlt ((b3.ext X).ext y)).2
          rw [Hu.out] at bu
          rw [Hv.out] at bv
          repeat (go_big_quiet_step (first | (go_at_call 18; with_reducible exact calls_cl (number_any _ _)) | (go_at_call 29; with_reducible exact calls_cl (less_c _ _ 0 (by simp [truthI] <;> omega) _)) | (go_at_call 31; with_reducible exact calls_cl (equal_c _ _ 1 (by simp [truthI] <;> omega) _))))
          refine wpQuiet_nil ?_
          intro yy
          refine wpListE_cons rfl ?_
          go_wp2_with fail
          refine ⟨fun _ => outA (yy.out X.below) _, fun z1 => ?_⟩
          have nb := (Has.new yy.w [.int .i64 0, .int .i64 0] 24).ext z1
          have nc0 := nb.here 0 (.int .i64 0) rfl
          have nf0 := (nb.2 0 (.int .i64 0) rfl).2
          have nc1 := nb.here 1 (.int .i64 0) rfl
          have nf1 := (nb.2 1 (.int .i64 0) rfl).2
          refine wpListE_cons rfl ?_
          go_wp2_with fail
          refine ⟨fun _ => (outS (outS (z1.out (outA (yy.out X.below) _)) (p := ⟨yy.w.heap.size, 0, none⟩) (yy.out X.below).size _) (p := ⟨yy.w.heap.size, 1, none⟩) (yy.out X.below).size _), fun z2 => ?_⟩
          have nd := ((nb.set_ 0 (.int .i64 1) (by simp)).set_ 1 (.int .i64 0) (by simp)).ext z2
          have hB := z2.out (outS (outS (z1.out (outA (yy.out X.below) _)) (p := ⟨yy.w.heap.size, 0, none⟩) (yy.out X.below).size _) (p := ⟨yy.w.heap.size, 1, none⟩) (yy.out X.below).size _)
          clear nb nc0 nc1 nf0 nf1 bu bv
          refine wpListE_cons rfl ?_
          go_wp2_with fail
          refine ⟨fun _ => hB, fun z3 => ?_⟩
          replace nd := nd.ext z3
          replace hB := z3.out hB
          refine wpListE_nil ?_
          go_wp2_with fail
          have hlbz : w.heap.size + 1 + 1 < yy.w.heap.size := (b2.below (yy.out X.below)).lt
          generalize yy.w.heap.size = bz at *
          refine wp_re (fun W => Has W w.heap.size [.int .i64 k, .int .i64 n] ∧ Has W (w.heap.size + 1) [.int .i64 k', .int .i64 n'] ∧ Has W (w.heap.size + 1 + 1) (lessL a b c m) ∧ Has W (w.heap.size + 1 + 1 + 1) [.int .i64 a, .int .i64 b, .int .i64 b, .int .i64 c, .int .i64 a, .int .i64 c] ∧ Has W bx [.int .i64 1, .int .i64 0] ∧ Has W bz [.int .i64 1, .int .i64 0] ∧ Below w.heap.size w W) ⟨b0.below hB, b1.below hB, b2.below hB, b3.below hB, hbx.below hB, nd, hbl.trans (hB.mono hbl.size)⟩ ?_
          clear b0 b1 b2 b3 hbl nd hB hbx
          rintro W2 ⟨b0, b1, b2, b3, hbx, hbz, hbl⟩ x
          have bu := fun y : Cl _ => (pairs_at hlt (b3.ext y)).1
          have bv := fun y : Cl _ => (pairs_at hlt (b3.ext y)).2
          rw [Hu.out] at bu
          rw [Hv.out] at bv
          refine region_cl (x := x) (by kernel_rfl) (by kernel_rfl) ?_
          repeat (go_big_quiet_step (first | (go_at_call 18; with_reducible exact calls_cl (number_any _ _)) | (go_at_call 29; with_reducible exact calls_cl (less_c _ _ 0 (by simp [truthI] <;> omega) _)) | (go_at_call 31; with_reducible exact calls_cl (equal_c _ _ 1 (by simp [truthI] <;> omega) _))))
          refine wpQuiet_nil ?_
          rintro w' ⟨yy, rfl⟩
          have hbx0 := hbx.at_ 0 (.int .i64 1) rfl
          have hbx1 := hbx.at_ 1 (.int .i64 0) rfl
          have hbz0 := hbz.at_ 0 (.int .i64 1) rfl
          have hbz1 := hbz.at_ 1 (.int .i64 0) rfl
          clear bu bv
          go_wp2_with fail
          refine region_last (x := yy) 5 Try.func22 rfl (by kernel_rfl) (by kernel_rfl) (by kernel_rfl) (by kernel_rfl) (fun _ _ d _ _ h => by cases d <;> exact h) (fun X => ?_)
          simp only [List.take_succ_cons, List.take_zero, List.drop_succ_cons, List.drop_zero]
          clear hbx0 hbx1 hbz0 hbz1
          have hbx0 := (hbx.ext X).at_ 0 (.int .i64 1) rfl
          have hbx1 := (hbx.ext X).at_ 1 (.int .i64 0) rfl
          repeat (go_big_quiet_step (first | (go_at_call 18; with_reducible exact calls_cl (number_any _ _))))
          refine wpQuiet_nil ?_
          intro yv
          have hB0 := yv.out X.below
          have hml : m < (lessL a b c m).length := by rw [less_len]; exact hlt
          obtain ⟨s0, s1⟩ := (b2.below hB0).2 m _ (List.getElem?_eq_getElem hml)
          have hcell : ∃ u0, yv.w.cell? ⟨w.heap.size + 1 + 1, m, none⟩ = some u0 := ⟨_, s0⟩
          clear s0
          obtain ⟨u0, s0⟩ := hcell
          refine wpListE_cons rfl ?_
          go_wp2_with fail
          refine ⟨(fun h => by cases h), fun z => ?_⟩
          clear s0 s1
          have hg := grown_ext (grown_set (grown_of hB0 (some (w.heap.size + 1 + 1))) m (.bool false)) z.below
          have nd := ((b2.below hB0).set_ m (.bool false) hml).ext z
          rw [less_set a b c m hlt false (by rw [Hu.out, Hv.out]; simp only [decide_eq_false_iff_not]; omega)] at nd
          replace b0 := b0.grown hg (by omega)
          replace b1 := b1.grown hg (by omega)
          replace b3 := b3.grown hg (by omega)
          replace hbl := hbl.trans (below_of_grown hg hbl.size (by omega))
          clear b2 hbx hbz hB0 hg hml Hu Hv hbx0 hbx1
          refine wpListE_nil ?_
          go_wp2_with fail
          go_roundw
          case rel => exact ⟨m + 1, by omega, by go_num, b0, b1, nd, b3, hbl⟩
          case measure => simp [intOf]; omega
        · skip
          go_wp2_with fail
          refine wp_cl fun x => ?_
          have hm0 : (0 : Int) ≤ (m : Int) := Int.natCast_nonneg _
          have hm1 : (m : Int) < (3 : Int) := by omega
          refine region_tail 14 Try.func22 rfl (by kernel_rfl) (by kernel_rfl) (by kernel_rfl) (fun _ _ d _ _ h => by cases d <;> exact h) (fun X => ?_)
          simp only [List.take_succ_cons, List.take_zero, List.drop_succ_cons, List.drop_zero]
          have bu := fun y : Cl X.w => (pairs_at hlt ((b3.ext X).ext y)).1
          have bv := fun y : Cl X.w => (pairs_at hlt ((b3.ext X).ext y)).2
          rw [Hu.out] at bu
          rw [Hv.out] at bv
          repeat (go_big_quiet_step (first | (go_at_call 18; with_reducible exact calls_cl (number_any _ _)) | (go_at_call 29; with_reducible exact calls_cl (less_c _ _ 0 (by simp [truthI] <;> omega) _)) | (go_at_call 31; with_reducible exact calls_cl (equal_c _ _ 0 (by simp [truthI] <;> omega) _))))
          refine wpQuiet_nil ?_
          intro yy
          refine wpListE_cons rfl ?_
          go_wp2_with fail
          refine ⟨fun _ => outA (yy.out X.below) _, fun z1 => ?_⟩
          have nb := (Has.new yy.w [.int .i64 0, .int .i64 0] 24).ext z1
          have nc0 := nb.here 0 (.int .i64 0) rfl
          have nf0 := (nb.2 0 (.int .i64 0) rfl).2
          have nc1 := nb.here 1 (.int .i64 0) rfl
          have nf1 := (nb.2 1 (.int .i64 0) rfl).2
          refine wpListE_cons rfl ?_
          go_wp2_with fail
          refine ⟨fun _ => (outS (outS (z1.out (outA (yy.out X.below) _)) (p := ⟨yy.w.heap.size, 0, none⟩) (yy.out X.below).size _) (p := ⟨yy.w.heap.size, 1, none⟩) (yy.out X.below).size _), fun z2 => ?_⟩
          have nd := ((nb.set_ 0 (.int .i64 1) (by simp)).set_ 1 (.int .i64 0) (by simp)).ext z2
          have hB := z2.out (outS (outS (z1.out (outA (yy.out X.below) _)) (p := ⟨yy.w.heap.size, 0, none⟩) (yy.out X.below).size _) (p := ⟨yy.w.heap.size, 1, none⟩) (yy.out X.below).size _)
          clear nb nc0 nc1 nf0 nf1 bu bv
          refine wpListE_cons rfl ?_
          go_wp2_with fail
          refine ⟨fun _ => hB, fun z3 => ?_⟩
          replace nd := nd.ext z3
          replace hB := z3.out hB
          refine wpListE_nil ?_
          go_wp2_with fail
          have hlbx : w.heap.size + 1 + 1 < yy.w.heap.size := (b2.below (yy.out X.below)).lt
          generalize yy.w.heap.size = bx at *
          refine wp_re (fun W => Has W w.heap.size [.int .i64 k, .int .i64 n] ∧ Has W (w.heap.size + 1) [.int .i64 k', .int .i64 n'] ∧ Has W (w.heap.size + 1 + 1) (lessL a b c m) ∧ Has W (w.heap.size + 1 + 1 + 1) [.int .i64 a, .int .i64 b, .int .i64 b, .int .i64 c, .int .i64 a, .int .i64 c] ∧ Has W bx [.int .i64 1, .int .i64 0] ∧ Below w.heap.size w W) ⟨b0.below hB, b1.below hB, b2.below hB, b3.below hB, nd, hbl.trans (hB.mono hbl.size)⟩ ?_
          clear b0 b1 b2 b3 hbl nd hB 
          rintro W2 ⟨b0, b1, b2, b3, hbx, hbl⟩ x
          refine region_tail 14 Try.func22 rfl (by kernel_rfl) (by kernel_rfl) (by kernel_rfl) (fun _ _ d _ _ h => by cases d <;> exact h) (fun X => ?_)
          simp only [List.take_succ_cons, List.take_zero, List.drop_succ_cons, List.drop_zero]
          have bu := fun y : Cl X.w => (pairs_at hlt ((b3.ext X).ext y)).1
          have bv := fun y : Cl X.w => (pairs_at hlt ((b3.ext X).ext y)).2
          rw [Hu.out] at bu
          rw [Hv.out] at bv
          repeat (go_big_quiet_step (first | (go_at_call 18; with_reducible exact calls_cl (number_any _ _)) | (go_at_call 29; with_reducible exact calls_cl (less_c _ _ 1 (by simp [truthI] <;> omega) _)) | (go_at_call 31; with_reducible exact calls_cl (equal_c _ _ 0 (by simp [truthI] <;> omega) _))))
          refine wpQuiet_nil ?_
          intro yy
          refine wpListE_cons rfl ?_
          go_wp2_with fail
          refine ⟨fun _ => outA (yy.out X.below) _, fun z1 => ?_⟩
          have nb := (Has.new yy.w [.int .i64 0, .int .i64 0] 24).ext z1
          have nc0 := nb.here 0 (.int .i64 0) rfl
          have nf0 := (nb.2 0 (.int .i64 0) rfl).2
          have nc1 := nb.here 1 (.int .i64 0) rfl
          have nf1 := (nb.2 1 (.int .i64 0) rfl).2
          refine wpListE_cons rfl ?_
          go_wp2_with fail
          refine ⟨fun _ => (outS (outS (z1.out (outA (yy.out X.below) _)) (p := ⟨yy.w.heap.size, 0, none⟩) (yy.out X.below).size _) (p := ⟨yy.w.heap.size, 1, none⟩) (yy.out X.below).size _), fun z2 => ?_⟩
          have nd := ((nb.set_ 0 (.int .i64 1) (by simp)).set_ 1 (.int .i64 1) (by simp)).ext z2
          have hB := z2.out (outS (outS (z1.out (outA (yy.out X.below) _)) (p := ⟨yy.w.heap.size, 0, none⟩) (yy.out X.below).size _) (p := ⟨yy.w.heap.size, 1, none⟩) (yy.out X.below).size _)
          clear nb nc0 nc1 nf0 nf1 bu bv
          refine wpListE_cons rfl ?_
          go_wp2_with fail
          refine ⟨fun _ => hB, fun z3 => ?_⟩
          replace nd := nd.ext z3
          replace hB := z3.out hB
          refine wpListE_nil ?_
          go_wp2_with fail
          have hlbz : w.heap.size + 1 + 1 < yy.w.heap.size := (b2.below (yy.out X.below)).lt
          generalize yy.w.heap.size = bz at *
          refine wp_re (fun W => Has W w.heap.size [.int .i64 k, .int .i64 n] ∧ Has W (w.heap.size + 1) [.int .i64 k', .int .i64 n'] ∧ Has W (w.heap.size + 1 + 1) (lessL a b c m) ∧ Has W (w.heap.size + 1 + 1 + 1) [.int .i64 a, .int .i64 b, .int .i64 b, .int .i64 c, .int .i64 a, .int .i64 c] ∧ Has W bx [.int .i64 1, .int .i64 0] ∧ Has W bz [.int .i64 1, .int .i64 1] ∧ Below w.heap.size w W) ⟨b0.below hB, b1.below hB, b2.below hB, b3.below hB, hbx.below hB, nd, hbl.trans (hB.mono hbl.size)⟩ ?_
          clear b0 b1 b2 b3 hbl nd hB hbx
          rintro W2 ⟨b0, b1, b2, b3, hbx, hbz, hbl⟩ x
          have bu := fun y : Cl _ => (pairs_at hlt (b3.ext y)).1
          have bv := fun y : Cl _ => (pairs_at hlt (b3.ext y)).2
          rw [Hu.out] at bu
          rw [Hv.out] at bv
          refine region_cl (x := x) (by kernel_rfl) (by kernel_rfl) ?_
          repeat (go_big_quiet_step (first | (go_at_call 18; with_reducible exact calls_cl (number_any _ _)) | (go_at_call 29; with_reducible exact calls_cl (less_c _ _ 0 (by simp [truthI] <;> omega) _)) | (go_at_call 31; with_reducible exact calls_cl (equal_c _ _ 0 (by simp [truthI] <;> omega) _))))
          refine wpQuiet_nil ?_
          rintro w' ⟨yy, rfl⟩
          have hbx0 := hbx.at_ 0 (.int .i64 1) rfl
          have hbx1 := hbx.at_ 1 (.int .i64 0) rfl
          have hbz0 := hbz.at_ 0 (.int .i64 1) rfl
          have hbz1 := hbz.at_ 1 (.int .i64 1) rfl
          clear bu bv
          go_wp2_with fail
          refine region_last (x := yy) 5 Try.func22 rfl (by kernel_rfl) (by kernel_rfl) (by kernel_rfl) (by kernel_rfl) (fun _ _ d _ _ h => by cases d <;> exact h) (fun X => ?_)
          simp only [List.take_succ_cons, List.take_zero, List.drop_succ_cons, List.drop_zero]
          clear hbx0 hbx1 hbz0 hbz1
          have hbx0 := (hbx.ext X).at_ 0 (.int .i64 1) rfl
          have hbx1 := (hbx.ext X).at_ 1 (.int .i64 0) rfl
          repeat (go_big_quiet_step (first | (go_at_call 18; with_reducible exact calls_cl (number_any _ _))))
          refine wpQuiet_nil ?_
          intro yv
          have hB0 := yv.out X.below
          have hml : m < (lessL a b c m).length := by rw [less_len]; exact hlt
          obtain ⟨s0, s1⟩ := (b2.below hB0).2 m _ (List.getElem?_eq_getElem hml)
          have hcell : ∃ u0, yv.w.cell? ⟨w.heap.size + 1 + 1, m, none⟩ = some u0 := ⟨_, s0⟩
          clear s0
          obtain ⟨u0, s0⟩ := hcell
          refine wpListE_cons rfl ?_
          go_wp2_with fail
          refine ⟨(fun h => by cases h), fun z => ?_⟩
          clear s0 s1
          have hg := grown_ext (grown_set (grown_of hB0 (some (w.heap.size + 1 + 1))) m (.bool false)) z.below
          have nd := ((b2.below hB0).set_ m (.bool false) hml).ext z
          rw [less_set a b c m hlt false (by rw [Hu.out, Hv.out]; simp only [decide_eq_false_iff_not]; omega)] at nd
          replace b0 := b0.grown hg (by omega)
          replace b1 := b1.grown hg (by omega)
          replace b3 := b3.grown hg (by omega)
          replace hbl := hbl.trans (below_of_grown hg hbl.size (by omega))
          clear b2 hbx hbz hB0 hg hml Hu Hv hbx0 hbx1
          refine wpListE_nil ?_
          go_wp2_with fail
          go_roundw
          case rel => exact ⟨m + 1, by omega, by go_num, b0, b1, nd, b3, hbl⟩
          case measure => simp [intOf]; omega
    · obtain rfl : m = 3 := by omega
      refine wp_cl fun x => ?_
      have c00 := fun y : Cl wr => (b0.ext y).here 0 _ rfl
      have c01 := fun y : Cl wr => (b0.ext y).here 1 _ rfl
      have c10 := fun y : Cl wr => (b1.ext y).here 0 _ rfl
      have c11 := fun y : Cl wr => (b1.ext y).here 1 _ rfl
      have l0 := fun y : Cl wr => (b2.ext y).here 0 _ rfl
      have l1 := fun y : Cl wr => (b2.ext y).here 1 _ rfl
      have l2 := fun y : Cl wr => (b2.ext y).here 2 _ rfl
      have hq : ∃ p0 p1 p2 : Bool, (p0 && p1 && !p2) = false ∧ (∀ y : Cl wr, y.w.cell? ⟨w.heap.size + 1 + 1, 0, none⟩ = some (.bool p0)) ∧ (∀ y : Cl wr, y.w.cell? ⟨w.heap.size + 1 + 1, 1, none⟩ = some (.bool p1)) ∧ (∀ y : Cl wr, y.w.cell? ⟨w.heap.size + 1 + 1, 2, none⟩ = some (.bool p2)) := by
        refine ⟨_, _, _, ?_, l0, l1, l2⟩
        by_cases g1 : a < b <;> by_cases g2 : b < c <;> by_cases g3 : a < c <;> simp [g1, g2, g3]
        omega
      clear l0 l1 l2 b0 b1 b2 b3
      obtain ⟨p0, p1, p2, hp, l0, l1, l2⟩ := hq
      obtain ⟨B, hB⟩ : ∃ B : Bool, (k == k' && n == n') = B := ⟨_, rfl⟩
      rcases (by revert hp; cases p0 <;> cases p1 <;> cases p2 <;> decide : p0 = false ∨ (p0 = true ∧ p1 = false) ∨ (p0 = true ∧ p1 = true ∧ p2 = true)) with rfl | ⟨rfl, rfl⟩ | ⟨rfl, rfl, rfl⟩
      · clear hp
        cases B
        · go_wp2_with fail
          refine region_cl (x := x) (by kernel_rfl) (by kernel_rfl) ?_
          repeat (go_big_quiet_step (first | (go_at_call 18; with_reducible exact calls_cl (number_any _ _)) | (go_at_call 31; with_reducible exact calls_cl (equal_self k n _)) | (go_at_call 31; with_reducible exact calls_cl (equal_n k n k' n' hB _)) | (go_at_call 22; with_reducible exact calls_cl (awake_any _))))
          refine wpQuiet_nil ?_
          rintro w' ⟨yy, rfl⟩
          go_wp2_with fail
          go_ret
          exact Ret.of (yy.out hbl)
        · go_wp2_with fail
          refine region_cl (x := x) (by kernel_rfl) (by kernel_rfl) ?_
          repeat (go_big_quiet_step (first | (go_at_call 18; with_reducible exact calls_cl (number_any _ _)) | (go_at_call 31; with_reducible exact calls_cl (equal_self k n _)) | (go_at_call 31; with_reducible exact calls_cl (equal_y k n k' n' hB _)) | (go_at_call 22; with_reducible exact calls_cl (awake_any _))))
          refine wpQuiet_nil ?_
          rintro w' ⟨yy, rfl⟩
          go_wp2_with fail
          go_ret
          exact Ret.of (yy.out hbl)
      · clear hp
        cases B
        · go_wp2_with fail
          refine region_cl (x := x) (by kernel_rfl) (by kernel_rfl) ?_
          repeat (go_big_quiet_step (first | (go_at_call 18; with_reducible exact calls_cl (number_any _ _)) | (go_at_call 31; with_reducible exact calls_cl (equal_self k n _)) | (go_at_call 31; with_reducible exact calls_cl (equal_n k n k' n' hB _)) | (go_at_call 22; with_reducible exact calls_cl (awake_any _))))
          refine wpQuiet_nil ?_
          rintro w' ⟨yy, rfl⟩
          go_wp2_with fail
          go_ret
          exact Ret.of (yy.out hbl)
        · go_wp2_with fail
          refine region_cl (x := x) (by kernel_rfl) (by kernel_rfl) ?_
          repeat (go_big_quiet_step (first | (go_at_call 18; with_reducible exact calls_cl (number_any _ _)) | (go_at_call 31; with_reducible exact calls_cl (equal_self k n _)) | (go_at_call 31; with_reducible exact calls_cl (equal_y k n k' n' hB _)) | (go_at_call 22; with_reducible exact calls_cl (awake_any _))))
          refine wpQuiet_nil ?_
          rintro w' ⟨yy, rfl⟩
          go_wp2_with fail
          go_ret
          exact Ret.of (yy.out hbl)
      · clear hp
        cases B
        · go_wp2_with fail
          refine region_cl (x := x) (by kernel_rfl) (by kernel_rfl) ?_
          repeat (go_big_quiet_step (first | (go_at_call 18; with_reducible exact calls_cl (number_any _ _)) | (go_at_call 31; with_reducible exact calls_cl (equal_self k n _)) | (go_at_call 31; with_reducible exact calls_cl (equal_n k n k' n' hB _)) | (go_at_call 22; with_reducible exact calls_cl (awake_any _))))
          refine wpQuiet_nil ?_
          rintro w' ⟨yy, rfl⟩
          go_wp2_with fail
          go_ret
          exact Ret.of (yy.out hbl)
        · go_wp2_with fail
          refine region_cl (x := x) (by kernel_rfl) (by kernel_rfl) ?_
          repeat (go_big_quiet_step (first | (go_at_call 18; with_reducible exact calls_cl (number_any _ _)) | (go_at_call 31; with_reducible exact calls_cl (equal_self k n _)) | (go_at_call 31; with_reducible exact calls_cl (equal_y k n k' n' hB _)) | (go_at_call 22; with_reducible exact calls_cl (awake_any _))))
          refine wpQuiet_nil ?_
          rintro w' ⟨yy, rfl⟩
          go_wp2_with fail
          go_ret
          exact Ret.of (yy.out hbl)

theorem cellsVal : Try.prog.cellsOf 24 = 2 := by kernel_rfl


theorem own : ownKnob Try.prog.godebug = none := by kernel_rfl
set_option maxRecDepth 100000 in
theorem lifted (os : Os) (started : os.Started) (H : Type) (enc : TypeId × Value → H) :
    ReturnsInHanded {} Try.checked os 7 .any (Rows.valueOrdersSpec.pre6 enc Try.prog Try.f7 Rows.valueOrdersRow.domain false) (Rows.valueOrdersSpec.post enc Try.prog Try.f7 false true false false) := by
  refine law_frame (C := Try.checked) own started (by kernel_rfl) Try.func7 rfl rfl Try.underlying4 ?_ (by kernel_rfl) (by kernel_rfl)
    (ChangeSpec.witness6 (enc := enc) (C := Try.checked) false ⟨#[], #[.int .i64 0, .int .i64 0, .int .i64 0, .agg #[.int .i64 0, .int .i64 0], .agg #[.int .i64 0, .int .i64 0]], []⟩ 8 (by kernel_rfl) (by kernel_rfl) (by kernel_rfl) (by kernel_rfl)) ?_
  · intro ds hlen
    have hlen : ds.length = 5 := hlen.trans (by kernel_rfl)
    match ds, hlen with
    | [_, _, _, _, _], _ => rfl
  intro W base args ds p hval hA hlt hsz
  rw [Try.params7] at hA hval
  obtain ⟨v0, vs0, d0, ds0, p0, q0, hargs, rfl, rfl, h0, r0⟩ := trodAll_cons hA
  obtain ⟨v1, vs1, d1, ds1, p1, q1, rfl, rfl, rfl, h1, r1⟩ := trodAll_cons r0
  obtain ⟨v2, vs2, d2, ds2, p2, q2, rfl, rfl, rfl, h2, r2⟩ := trodAll_cons r1
  obtain ⟨v3, vs3, d3, ds3, p3, q3, rfl, rfl, rfl, h3, r3⟩ := trodAll_cons r2
  obtain ⟨v4, vs4, d4, ds4, p4, q4, rfl, rfl, rfl, h4, r4⟩ := trodAll_cons r3
  obtain ⟨rfl, rfl, rfl⟩ := trodAll_nil r4
  obtain rfl : args = #[v0, v1, v2, v3, v4] := by cases args; simp_all
  obtain ⟨a, rfl, rfl, rfl, wf0⟩ := open_int Try.underlying3 (hval 0 3 v0 rfl rfl) h0
  obtain ⟨b, rfl, rfl, rfl, wf1⟩ := open_int Try.underlying3 (hval 1 3 v1 rfl rfl) h1
  obtain ⟨c, rfl, rfl, rfl, wf2⟩ := open_int Try.underlying3 (hval 2 3 v2 rfl rfl) h2
  obtain ⟨c30, c31, y30, y31, m3, rfl, rfl, rfl, hy30, hy31⟩ := open_agg2 Try.underlying24 (by kernel_rfl) cellsVal (hval 3 24 v3 rfl rfl) h3
  obtain ⟨k, e30, rfl, wfk⟩ := DataW.trod_int Try.underlying22 hy30
  obtain ⟨n, e31, rfl, wfn⟩ := DataW.trod_int Try.underlying3 hy31
  simp at e30 e31
  subst e30 e31
  obtain ⟨lon, hin⟩ := bounds_i64 wfn
  obtain ⟨c40, c41, y40, y41, m4, rfl, rfl, rfl, hy40, hy41⟩ := open_agg2 Try.underlying24 (by kernel_rfl) cellsVal (hval 4 24 v4 rfl rfl) h4
  obtain ⟨k', e40, rfl, wfk'⟩ := DataW.trod_int Try.underlying22 hy40
  obtain ⟨n', e41, rfl, wfn'⟩ := DataW.trod_int Try.underlying3 hy41
  simp at e40 e41
  subst e40 e41
  obtain ⟨lon', hin'⟩ := bounds_i64 wfn'
  exact walk a b c k n k' n' W

theorem over : Rows.valueOrdersRow.holds Try.pinned (OpenSpec.ofChange Rows.valueOrdersSpec) :=
  OpenClaim.holds_of_wide 7 Try.f7 rfl rfl rfl rfl rfl rfl rfl ⟨rfl, rfl, rfl, rfl, rfl⟩ rfl rfl rfl rfl rfl (by kernel_rfl) Try.func7 (by kernel_rfl)
    (of_decide_eq_true (by kernel_rfl)) (by unfold Func.isWrapper; first | (rw [if_pos (by decide +kernel)]; kernel_rfl) | (rw [if_neg (by decide +kernel)]; exact ⟨rfl, rfl⟩))
    (fun os started H enc _ => lifted os started H enc)

/-- The statement. -/
theorem proved : Rows.ValueOrdersSaid := over
#print axioms proved

end Ord
end Go.Proofs.Ytmbigmankefedaa
