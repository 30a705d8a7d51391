/- ValueBack: references go there and back, sums and differences undo one another, for all inputs. -/
import Derived.Test.YtmbigmankefedaaFrame
import Derived.Test.YtmbigmankefedaaTail
import Derived.Test.YtmbigmankefedaaValD
namespace Go.Proofs.Ytmbigmankefedaa
open Go.ChangeShapes Go.WideShapes Go.ChangeAt Go.RowKit
namespace Back

open Val Go.Joins

attribute [local go_sem ↓] run_eql_val run_neq_val

theorem scratch : True := trivial

theorem of_no (g a : Int) (hz : fitsB g a = false) (w : World) : Calls Try.prog 23 #[.int .i64 g, .int .i64 a] w (Ret (.tuple #[.agg #[.int .i64 0, .int .i64 0], .int .i64 1]) w) := by
  have h := of_any g a w
  rwa [ofI_no hz, ofI_no hz, ofI_no hz] at h
theorem of_yes (g a : Int) (hz : fitsB g a = true) (w : World) : Calls Try.prog 23 #[.int .i64 g, .int .i64 a] w (Ret (.tuple #[.agg #[.int .i64 2, .int .i64 (g * 1048576 + a)], .int .i64 0]) w) := by
  have h := of_any g a w
  rwa [ofI_yes hz, ofI_yes hz, ofI_yes hz] at h
theorem add_num (p q : Int) (w : World) : Calls Try.prog 25 #[.agg #[.int .i64 1, .int .i64 p], .agg #[.int .i64 1, .int .i64 q]] w (Ret (.tuple #[.agg #[.int .i64 1, .int .i64 (wrap64 (p + q))], .int .i64 0]) w) := add_any 1 p 1 q w
theorem undo_num (p q : Int) (hp : p ≤ 9223372036854775807) (hp' : -9223372036854775808 ≤ p) : wrap64 (wrap64 (p + q) - q) = p := by unfold wrap64; omega
theorem sub_num (p q : Int) (hp : p ≤ 9223372036854775807) (hp' : -9223372036854775808 ≤ p) (w : World) : Calls Try.prog 27 #[.agg #[.int .i64 1, .int .i64 (wrap64 (p + q))], .agg #[.int .i64 1, .int .i64 q]] w (Ret (.tuple #[.agg #[.int .i64 1, .int .i64 p], .int .i64 0]) w) := by
  have h := sub_any 1 (wrap64 (p + q)) 1 q w
  rw [undo_num p q hp hp'] at h
  exact h
theorem gen_of (g a : Int) (hz : fitsB g a = true) (w : World) : Calls Try.prog 10 #[.agg #[.int .i64 2, .int .i64 (g * 1048576 + a)]] w (Ret (.int .i64 g) w) := by
  obtain ⟨h1, h2, h3, h4⟩ := (fitsB_iff g a).1 hz
  have h := gen_any 2 (g * 1048576 + a) (by omega) (by omega) w
  rwa [genI_yes ((namesB_iff _).2 ⟨by omega, by omega, by omega⟩), show (g * 1048576 + a) / 1048576 = g by omega] at h
theorem addr_of (g a : Int) (hz : fitsB g a = true) (w : World) : Calls Try.prog 12 #[.agg #[.int .i64 2, .int .i64 (g * 1048576 + a)]] w (Ret (.int .i64 a) w) := by
  obtain ⟨h1, h2, h3, h4⟩ := (fitsB_iff g a).1 hz
  have h := addr_any 2 (g * 1048576 + a) (by omega) (by omega) w
  rwa [addrI_yes ((namesB_iff _).2 ⟨by omega, by omega, by omega⟩), show (g * 1048576 + a) % 1048576 = a by omega] at h
theorem check_of (g a : Int) (hz : fitsB g a = true) (w : World) : Calls Try.prog 8 #[.agg #[.int .i64 2, .int .i64 (g * 1048576 + a)]] w (Ret (.int .i64 0) w) := by
  obtain ⟨h1, h2, h3, h4⟩ := (fitsB_iff g a).1 hz
  have h := check_any 2 (g * 1048576 + a) (by omega) w
  have hn : namesB (g * 1048576 + a) = true := (namesB_iff _).2 ⟨by omega, by omega, by omega⟩
  rwa [show checkI 2 (g * 1048576 + a) = 0 by simp [checkI, okB, hn]] at h
theorem isnil_of (g a : Int) (hz : fitsB g a = true) (w : World) : Calls Try.prog 14 #[.agg #[.int .i64 2, .int .i64 (g * 1048576 + a)]] w (Ret (.bool false) w) := by
  obtain ⟨h1, h2, h3, h4⟩ := (fitsB_iff g a).1 hz
  exact isnil_any 2 (g * 1048576 + a) false (by simp; omega) w
theorem check_ok (n : Int) (hn : n ≤ 9223372036854775807) (b : Bool) (hb : okB 2 n = b) (w : World) : Calls Try.prog 8 #[.agg #[.int .i64 2, .int .i64 n]] w (Ret (.int .i64 (if b then 0 else 10)) w) := by
  have h := check_any 2 n hn w
  rwa [show checkI 2 n = if b then 0 else 10 by simp [checkI, hb]] at h
theorem gen_names (n : Int) (hn : n ≤ 9223372036854775807) (hn' : -9223372036854775808 ≤ n) (hz : namesB n = true) (w : World) : Calls Try.prog 10 #[.agg #[.int .i64 2, .int .i64 n]] w (Ret (.int .i64 (n / 1048576)) w) := by
  have h := gen_any 2 n hn hn' w
  rwa [genI_yes hz] at h
theorem addr_names (n : Int) (hn : n ≤ 9223372036854775807) (hn' : -9223372036854775808 ≤ n) (hz : namesB n = true) (w : World) : Calls Try.prog 12 #[.agg #[.int .i64 2, .int .i64 n]] w (Ret (.int .i64 (n % 1048576)) w) := by
  have h := addr_any 2 n hn hn' w
  rwa [addrI_yes hz] at h
theorem of_names (n : Int) (hz : namesB n = true) (w : World) : Calls Try.prog 23 #[.int .i64 (n / 1048576), .int .i64 (n % 1048576)] w (Ret (.tuple #[.agg #[.int .i64 2, .int .i64 n], .int .i64 0]) w) := by
  obtain ⟨h1, h2, h3⟩ := (namesB_iff n).1 hz
  have h := of_yes (n / 1048576) (n % 1048576) ((fitsB_iff _ _).2 ⟨by omega, by omega, by omega, by omega⟩) w
  rwa [show n / 1048576 * 1048576 + n % 1048576 = n by omega] at h

set_option maxRecDepth 100000 in
set_option maxHeartbeats 2000000 in
theorem walk_no_A (k n g a p q : Int) (hn : n ≤ 9223372036854775807) (hn' : -9223372036854775808 ≤ n) (hp : p ≤ 9223372036854775807) (hp' : -9223372036854775808 ≤ p) (hf : fitsB g a = false) (hk : (k == 2) = false) (w : World) :
    Calls Try.prog 6 #[.agg #[.int .i64 k, .int .i64 n], .int .i64 g, .int .i64 a, .int .i64 p, .int .i64 q] w (Ret (.bool true) w) := by
  go_enter Try.func6, Try.ntmps6
  go_wp2_with fail
  refine calls_re (fun W => Has W w.heap.size [.int .i64 k, .int .i64 n] ∧ Below w.heap.size w W) ⟨(Has.new _ _ _), (outA (Below.refl _ _) _)⟩ ?_
  skip
  rintro W1 ⟨b0, hbl⟩ x1
  have b0c0 := b0.at_ 0 (.int .i64 k) rfl
  have b0c1 := b0.at_ 1 (.int .i64 n) rfl
  have b0l := b0.lts
  refine ((of_no g a hf _).mono ?_)
  rintro e w' h
  obtain ⟨rfl, y1, rfl⟩ := h.next (x := x1)
  go_wp2_with fail
  clear b0l b0c0 b0c1
  refine calls_re (fun W => Has W w.heap.size [.int .i64 k, .int .i64 n] ∧ Has W y1.w.heap.size [.int .i64 0, .int .i64 0] ∧ Below w.heap.size w W) ⟨((b0.ext y1).alloc _), (Has.new _ _ _), (outA (y1.out hbl) _)⟩ ?_
  clear b0 hbl
  rintro W2 ⟨b0, b1, hbl⟩ x2
  have b0c0 := b0.at_ 0 (.int .i64 k) rfl
  have b0c1 := b0.at_ 1 (.int .i64 n) rfl
  have b0l := b0.lts
  have b1c0 := b1.at_ 0 (.int .i64 0) rfl
  have b1c1 := b1.at_ 1 (.int .i64 0) rfl
  have b1l := b1.lts
  refine ((number_any _ _).mono ?_)
  rintro e w' h
  obtain ⟨rfl, y2, rfl⟩ := h.next (x := x2)
  go_wp2_with fail
  refine ((number_any _ _).mono ?_)
  rintro e w' h
  obtain ⟨rfl, y3, rfl⟩ := h.next (x := y2)
  go_wp2_with fail
  refine ((add_num p q _).mono ?_)
  rintro e w' h
  obtain ⟨rfl, y4, rfl⟩ := h.next (x := y3)
  go_wp2_with fail
  clear b0l b1l b0c0 b0c1 b1c0 b1c1
  refine wp_re (fun W => Has W w.heap.size [.int .i64 k, .int .i64 n] ∧ Has W y1.w.heap.size [.int .i64 0, .int .i64 0] ∧ Has W y4.w.heap.size [.int .i64 1, .int .i64 (wrap64 (p + q))] ∧ Below w.heap.size w W) ⟨((b0.ext y4).alloc _), ((b1.ext y4).alloc _), (Has.new _ _ _), (outA (y4.out hbl) _)⟩ ?_
  clear b0 b1 hbl
  rintro W3 ⟨b0, b1, b2, hbl⟩ x3
  have b0c0 := b0.at_ 0 (.int .i64 k) rfl
  have b0c1 := b0.at_ 1 (.int .i64 n) rfl
  have b0l := b0.lts
  have b1c0 := b1.at_ 0 (.int .i64 0) rfl
  have b1c1 := b1.at_ 1 (.int .i64 0) rfl
  have b1l := b1.lts
  have b2c0 := b2.at_ 0 (.int .i64 1) rfl
  have b2c1 := b2.at_ 1 (.int .i64 (wrap64 (p + q))) rfl
  have b2l := b2.lts
  refine region_tail 7 Try.func22 rfl (by kernel_rfl) (by kernel_rfl) (by kernel_rfl) (fun _ _ d _ _ h => by cases d <;> exact h) (fun X => ?_)
  simp only [List.take_succ_cons, List.take_zero, List.drop_succ_cons, List.drop_zero]
  clear b0l b1l b2l b0c0 b0c1 b1c0 b1c1 b2c0 b2c1
  have b0c0 := (b0.ext X).at_ 0 (.int .i64 k) rfl
  have b0c1 := (b0.ext X).at_ 1 (.int .i64 n) rfl
  have b0l := (b0.ext X).lts
  have b1c0 := (b1.ext X).at_ 0 (.int .i64 0) rfl
  have b1c1 := (b1.ext X).at_ 1 (.int .i64 0) rfl
  have b1l := (b1.ext X).lts
  have b2c0 := (b2.ext X).at_ 0 (.int .i64 1) rfl
  have b2c1 := (b2.ext X).at_ 1 (.int .i64 (wrap64 (p + q))) rfl
  have b2l := (b2.ext X).lts
  repeat (go_big_quiet_step (first | (go_at_call 18; with_reducible exact calls_cl (number_any _ _)) | (go_at_call 27; with_reducible exact calls_cl (sub_num p q hp hp' _))))
  refine wpQuiet_nil ?_
  intro y5
  refine wpListE_cons rfl ?_
  go_wp2_with fail
  refine ⟨fun _ => outA (y5.out X.below) _, fun z1 => ?_⟩
  have nb := (Has.new y5.w [.int .i64 0, .int .i64 0] 24).ext z1
  have nc0 := nb.here 0 (.int .i64 0) rfl
  have nf0 := (nb.2 0 (.int .i64 0) rfl).2
  have nc1 := nb.here 1 (.int .i64 0) rfl
  have nf1 := (nb.2 1 (.int .i64 0) rfl).2
  refine wpListE_cons rfl ?_
  go_wp2_with fail
  refine ⟨fun _ => (outS (outS (z1.out (outA (y5.out X.below) _)) (p := ⟨y5.w.heap.size, 0, none⟩) (y5.out X.below).size _) (p := ⟨y5.w.heap.size, 1, none⟩) (y5.out X.below).size _), fun z2 => ?_⟩
  have nd := ((nb.set_ 0 (.int .i64 1) (by simp)).set_ 1 (.int .i64 p) (by simp)).ext z2
  clear nb nc0 nf0 nc1 nf1
  have hB := (z2.out (outS (outS (z1.out (outA (y5.out X.below) _)) (p := ⟨y5.w.heap.size, 0, none⟩) (y5.out X.below).size _) (p := ⟨y5.w.heap.size, 1, none⟩) (y5.out X.below).size _))
  refine wpListE_cons rfl ?_
  go_wp2_with fail
  refine ⟨fun _ => hB, fun z3 => ?_⟩
  replace nd := nd.ext z3
  replace hB := z3.out hB
  refine wpListE_nil ?_
  clear b0l b1l b2l b0c0 b0c1 b1c0 b1c1 b2c0 b2c1
  have tb0c0 := (b0.below hB).here 0 (.int .i64 k) rfl
  have tb0c1 := (b0.below hB).here 1 (.int .i64 n) rfl
  have tb1c0 := (b1.below hB).here 0 (.int .i64 0) rfl
  have tb1c1 := (b1.below hB).here 1 (.int .i64 0) rfl
  have tb2c0 := (b2.below hB).here 0 (.int .i64 1) rfl
  have tb2c1 := (b2.below hB).here 1 (.int .i64 (wrap64 (p + q))) rfl
  have tnd0 := nd.here 0 (.int .i64 1) rfl
  have tnd1 := nd.here 1 (.int .i64 p) rfl
  go_wp2_with fail
  clear tb0c0 tb0c1 tb1c0 tb1c1 tb2c0 tb2c1 tnd0 tnd1
  refine wp_re (fun W => Has W w.heap.size [.int .i64 k, .int .i64 n] ∧ Has W y1.w.heap.size [.int .i64 0, .int .i64 0] ∧ Has W y4.w.heap.size [.int .i64 1, .int .i64 (wrap64 (p + q))] ∧ Has W y5.w.heap.size [.int .i64 1, .int .i64 p] ∧ Below w.heap.size w W) ⟨b0.below hB, b1.below hB, b2.below hB, nd, hbl.trans (hB.mono hbl.size)⟩ ?_
  clear b0 b1 b2 nd hB hbl
  rintro W4 ⟨b0, b1, b2, b3, hbl⟩ x4
  have b0c0 := b0.at_ 0 (.int .i64 k) rfl
  have b0c1 := b0.at_ 1 (.int .i64 n) rfl
  have b0l := b0.lts
  have b1c0 := b1.at_ 0 (.int .i64 0) rfl
  have b1c1 := b1.at_ 1 (.int .i64 0) rfl
  have b1l := b1.lts
  have b2c0 := b2.at_ 0 (.int .i64 1) rfl
  have b2c1 := b2.at_ 1 (.int .i64 (wrap64 (p + q))) rfl
  have b2l := b2.lts
  have b3c0 := b3.at_ 0 (.int .i64 1) rfl
  have b3c1 := b3.at_ 1 (.int .i64 p) rfl
  have b3l := b3.lts
  refine region_cl (by kernel_rfl) (by kernel_rfl) ?_
  repeat (go_big_quiet_step (first | (go_at_call 18; with_reducible exact calls_cl (number_any _ _)) | (go_at_call 22; with_reducible exact calls_cl (awake_any _))))
  refine wpQuiet_nil ?_
  rintro w' ⟨y6, rfl⟩
  go_wp2_with fail
  go_ret
  exact Ret.of (y6.out hbl)

set_option maxRecDepth 100000 in
set_option maxHeartbeats 2000000 in
theorem walk_no_B (n g a p q : Int) (hn : n ≤ 9223372036854775807) (hn' : -9223372036854775808 ≤ n) (hp : p ≤ 9223372036854775807) (hp' : -9223372036854775808 ≤ p) (hf : fitsB g a = false) (hb : okB 2 n = false) (w : World) :
    Calls Try.prog 6 #[.agg #[.int .i64 2, .int .i64 n], .int .i64 g, .int .i64 a, .int .i64 p, .int .i64 q] w (Ret (.bool true) w) := by
  go_enter Try.func6, Try.ntmps6
  go_wp2_with fail
  refine calls_re (fun W => Has W w.heap.size [.int .i64 2, .int .i64 n] ∧ Below w.heap.size w W) ⟨(Has.new _ _ _), (outA (Below.refl _ _) _)⟩ ?_
  skip
  rintro W1 ⟨b0, hbl⟩ x1
  have b0c0 := b0.at_ 0 (.int .i64 2) rfl
  have b0c1 := b0.at_ 1 (.int .i64 n) rfl
  have b0l := b0.lts
  refine ((of_no g a hf _).mono ?_)
  rintro e w' h
  obtain ⟨rfl, y1, rfl⟩ := h.next (x := x1)
  go_wp2_with fail
  clear b0l b0c0 b0c1
  refine calls_re (fun W => Has W w.heap.size [.int .i64 2, .int .i64 n] ∧ Has W y1.w.heap.size [.int .i64 0, .int .i64 0] ∧ Below w.heap.size w W) ⟨((b0.ext y1).alloc _), (Has.new _ _ _), (outA (y1.out hbl) _)⟩ ?_
  clear b0 hbl
  rintro W2 ⟨b0, b1, hbl⟩ x2
  have b0c0 := b0.at_ 0 (.int .i64 2) rfl
  have b0c1 := b0.at_ 1 (.int .i64 n) rfl
  have b0l := b0.lts
  have b1c0 := b1.at_ 0 (.int .i64 0) rfl
  have b1c1 := b1.at_ 1 (.int .i64 0) rfl
  have b1l := b1.lts
  refine ((check_ok n hn false hb _).mono ?_)
  rintro e w' h
  obtain ⟨rfl, y2, rfl⟩ := h.next (x := x2)
  go_wp2_with fail
  refine ((number_any _ _).mono ?_)
  rintro e w' h
  obtain ⟨rfl, y3, rfl⟩ := h.next (x := y2)
  go_wp2_with fail
  refine ((number_any _ _).mono ?_)
  rintro e w' h
  obtain ⟨rfl, y4, rfl⟩ := h.next (x := y3)
  go_wp2_with fail
  refine ((add_num p q _).mono ?_)
  rintro e w' h
  obtain ⟨rfl, y5, rfl⟩ := h.next (x := y4)
  go_wp2_with fail
  clear b0l b1l b0c0 b0c1 b1c0 b1c1
  refine wp_re (fun W => Has W w.heap.size [.int .i64 2, .int .i64 n] ∧ Has W y1.w.heap.size [.int .i64 0, .int .i64 0] ∧ Has W y5.w.heap.size [.int .i64 1, .int .i64 (wrap64 (p + q))] ∧ Below w.heap.size w W) ⟨((b0.ext y5).alloc _), ((b1.ext y5).alloc _), (Has.new _ _ _), (outA (y5.out hbl) _)⟩ ?_
  clear b0 b1 hbl
  rintro W3 ⟨b0, b1, b2, hbl⟩ x3
  have b0c0 := b0.at_ 0 (.int .i64 2) rfl
  have b0c1 := b0.at_ 1 (.int .i64 n) rfl
  have b0l := b0.lts
  have b1c0 := b1.at_ 0 (.int .i64 0) rfl
  have b1c1 := b1.at_ 1 (.int .i64 0) rfl
  have b1l := b1.lts
  have b2c0 := b2.at_ 0 (.int .i64 1) rfl
  have b2c1 := b2.at_ 1 (.int .i64 (wrap64 (p + q))) rfl
  have b2l := b2.lts
  refine region_tail 7 Try.func22 rfl (by kernel_rfl) (by kernel_rfl) (by kernel_rfl) (fun _ _ d _ _ h => by cases d <;> exact h) (fun X => ?_)
  simp only [List.take_succ_cons, List.take_zero, List.drop_succ_cons, List.drop_zero]
  clear b0l b1l b2l b0c0 b0c1 b1c0 b1c1 b2c0 b2c1
  have b0c0 := (b0.ext X).at_ 0 (.int .i64 2) rfl
  have b0c1 := (b0.ext X).at_ 1 (.int .i64 n) rfl
  have b0l := (b0.ext X).lts
  have b1c0 := (b1.ext X).at_ 0 (.int .i64 0) rfl
  have b1c1 := (b1.ext X).at_ 1 (.int .i64 0) rfl
  have b1l := (b1.ext X).lts
  have b2c0 := (b2.ext X).at_ 0 (.int .i64 1) rfl
  have b2c1 := (b2.ext X).at_ 1 (.int .i64 (wrap64 (p + q))) rfl
  have b2l := (b2.ext X).lts
  repeat (go_big_quiet_step (first | (go_at_call 18; with_reducible exact calls_cl (number_any _ _)) | (go_at_call 27; with_reducible exact calls_cl (sub_num p q hp hp' _))))
  refine wpQuiet_nil ?_
  intro y6
  refine wpListE_cons rfl ?_
  go_wp2_with fail
  refine ⟨fun _ => outA (y6.out X.below) _, fun z1 => ?_⟩
  have nb := (Has.new y6.w [.int .i64 0, .int .i64 0] 24).ext z1
  have nc0 := nb.here 0 (.int .i64 0) rfl
  have nf0 := (nb.2 0 (.int .i64 0) rfl).2
  have nc1 := nb.here 1 (.int .i64 0) rfl
  have nf1 := (nb.2 1 (.int .i64 0) rfl).2
  refine wpListE_cons rfl ?_
  go_wp2_with fail
  refine ⟨fun _ => (outS (outS (z1.out (outA (y6.out X.below) _)) (p := ⟨y6.w.heap.size, 0, none⟩) (y6.out X.below).size _) (p := ⟨y6.w.heap.size, 1, none⟩) (y6.out X.below).size _), fun z2 => ?_⟩
  have nd := ((nb.set_ 0 (.int .i64 1) (by simp)).set_ 1 (.int .i64 p) (by simp)).ext z2
  clear nb nc0 nf0 nc1 nf1
  have hB := (z2.out (outS (outS (z1.out (outA (y6.out X.below) _)) (p := ⟨y6.w.heap.size, 0, none⟩) (y6.out X.below).size _) (p := ⟨y6.w.heap.size, 1, none⟩) (y6.out X.below).size _))
  refine wpListE_cons rfl ?_
  go_wp2_with fail
  refine ⟨fun _ => hB, fun z3 => ?_⟩
  replace nd := nd.ext z3
  replace hB := z3.out hB
  refine wpListE_nil ?_
  clear b0l b1l b2l b0c0 b0c1 b1c0 b1c1 b2c0 b2c1
  have tb0c0 := (b0.below hB).here 0 (.int .i64 2) rfl
  have tb0c1 := (b0.below hB).here 1 (.int .i64 n) rfl
  have tb1c0 := (b1.below hB).here 0 (.int .i64 0) rfl
  have tb1c1 := (b1.below hB).here 1 (.int .i64 0) rfl
  have tb2c0 := (b2.below hB).here 0 (.int .i64 1) rfl
  have tb2c1 := (b2.below hB).here 1 (.int .i64 (wrap64 (p + q))) rfl
  have tnd0 := nd.here 0 (.int .i64 1) rfl
  have tnd1 := nd.here 1 (.int .i64 p) rfl
  go_wp2_with fail
  clear tb0c0 tb0c1 tb1c0 tb1c1 tb2c0 tb2c1 tnd0 tnd1
  refine wp_re (fun W => Has W w.heap.size [.int .i64 2, .int .i64 n] ∧ Has W y1.w.heap.size [.int .i64 0, .int .i64 0] ∧ Has W y5.w.heap.size [.int .i64 1, .int .i64 (wrap64 (p + q))] ∧ Has W y6.w.heap.size [.int .i64 1, .int .i64 p] ∧ Below w.heap.size w W) ⟨b0.below hB, b1.below hB, b2.below hB, nd, hbl.trans (hB.mono hbl.size)⟩ ?_
  clear b0 b1 b2 nd hB hbl
  rintro W4 ⟨b0, b1, b2, b3, hbl⟩ x4
  have b0c0 := b0.at_ 0 (.int .i64 2) rfl
  have b0c1 := b0.at_ 1 (.int .i64 n) rfl
  have b0l := b0.lts
  have b1c0 := b1.at_ 0 (.int .i64 0) rfl
  have b1c1 := b1.at_ 1 (.int .i64 0) rfl
  have b1l := b1.lts
  have b2c0 := b2.at_ 0 (.int .i64 1) rfl
  have b2c1 := b2.at_ 1 (.int .i64 (wrap64 (p + q))) rfl
  have b2l := b2.lts
  have b3c0 := b3.at_ 0 (.int .i64 1) rfl
  have b3c1 := b3.at_ 1 (.int .i64 p) rfl
  have b3l := b3.lts
  refine region_cl (by kernel_rfl) (by kernel_rfl) ?_
  repeat (go_big_quiet_step (first | (go_at_call 18; with_reducible exact calls_cl (number_any _ _)) | (go_at_call 22; with_reducible exact calls_cl (awake_any _))))
  refine wpQuiet_nil ?_
  rintro w' ⟨y7, rfl⟩
  go_wp2_with fail
  go_ret
  exact Ret.of (y7.out hbl)

set_option maxRecDepth 100000 in
set_option maxHeartbeats 2000000 in
theorem walk_no_C (g a p q : Int) (hp : p ≤ 9223372036854775807) (hp' : -9223372036854775808 ≤ p) (hf : fitsB g a = false) (w : World) :
    Calls Try.prog 6 #[.agg #[.int .i64 2, .int .i64 0], .int .i64 g, .int .i64 a, .int .i64 p, .int .i64 q] w (Ret (.bool true) w) := by
  go_enter Try.func6, Try.ntmps6
  go_wp2_with fail
  refine calls_re (fun W => Has W w.heap.size [.int .i64 2, .int .i64 0] ∧ Below w.heap.size w W) ⟨(Has.new _ _ _), (outA (Below.refl _ _) _)⟩ ?_
  skip
  rintro W1 ⟨b0, hbl⟩ x1
  have b0c0 := b0.at_ 0 (.int .i64 2) rfl
  have b0c1 := b0.at_ 1 (.int .i64 0) rfl
  have b0l := b0.lts
  refine ((of_no g a hf _).mono ?_)
  rintro e w' h
  obtain ⟨rfl, y1, rfl⟩ := h.next (x := x1)
  go_wp2_with fail
  clear b0l b0c0 b0c1
  refine calls_re (fun W => Has W w.heap.size [.int .i64 2, .int .i64 0] ∧ Has W y1.w.heap.size [.int .i64 0, .int .i64 0] ∧ Below w.heap.size w W) ⟨((b0.ext y1).alloc _), (Has.new _ _ _), (outA (y1.out hbl) _)⟩ ?_
  clear b0 hbl
  rintro W2 ⟨b0, b1, hbl⟩ x2
  have b0c0 := b0.at_ 0 (.int .i64 2) rfl
  have b0c1 := b0.at_ 1 (.int .i64 0) rfl
  have b0l := b0.lts
  have b1c0 := b1.at_ 0 (.int .i64 0) rfl
  have b1c1 := b1.at_ 1 (.int .i64 0) rfl
  have b1l := b1.lts
  refine ((check_ok 0 (by omega) true rfl _).mono ?_)
  rintro e w' h
  obtain ⟨rfl, y2, rfl⟩ := h.next (x := x2)
  go_wp2_with fail
  refine ((isnil_any 2 0 true rfl _).mono ?_)
  rintro e w' h
  obtain ⟨rfl, y3, rfl⟩ := h.next (x := y2)
  go_wp2_with fail
  refine ((number_any _ _).mono ?_)
  rintro e w' h
  obtain ⟨rfl, y4, rfl⟩ := h.next (x := y3)
  go_wp2_with fail
  refine ((number_any _ _).mono ?_)
  rintro e w' h
  obtain ⟨rfl, y5, rfl⟩ := h.next (x := y4)
  go_wp2_with fail
  refine ((add_num p q _).mono ?_)
  rintro e w' h
  obtain ⟨rfl, y6, rfl⟩ := h.next (x := y5)
  go_wp2_with fail
  clear b0l b1l b0c0 b0c1 b1c0 b1c1
  refine wp_re (fun W => Has W w.heap.size [.int .i64 2, .int .i64 0] ∧ Has W y1.w.heap.size [.int .i64 0, .int .i64 0] ∧ Has W y6.w.heap.size [.int .i64 1, .int .i64 (wrap64 (p + q))] ∧ Below w.heap.size w W) ⟨((b0.ext y6).alloc _), ((b1.ext y6).alloc _), (Has.new _ _ _), (outA (y6.out hbl) _)⟩ ?_
  clear b0 b1 hbl
  rintro W3 ⟨b0, b1, b2, hbl⟩ x3
  have b0c0 := b0.at_ 0 (.int .i64 2) rfl
  have b0c1 := b0.at_ 1 (.int .i64 0) rfl
  have b0l := b0.lts
  have b1c0 := b1.at_ 0 (.int .i64 0) rfl
  have b1c1 := b1.at_ 1 (.int .i64 0) rfl
  have b1l := b1.lts
  have b2c0 := b2.at_ 0 (.int .i64 1) rfl
  have b2c1 := b2.at_ 1 (.int .i64 (wrap64 (p + q))) rfl
  have b2l := b2.lts
  refine region_tail 7 Try.func22 rfl (by kernel_rfl) (by kernel_rfl) (by kernel_rfl) (fun _ _ d _ _ h => by cases d <;> exact h) (fun X => ?_)
  simp only [List.take_succ_cons, List.take_zero, List.drop_succ_cons, List.drop_zero]
  clear b0l b1l b2l b0c0 b0c1 b1c0 b1c1 b2c0 b2c1
  have b0c0 := (b0.ext X).at_ 0 (.int .i64 2) rfl
  have b0c1 := (b0.ext X).at_ 1 (.int .i64 0) rfl
  have b0l := (b0.ext X).lts
  have b1c0 := (b1.ext X).at_ 0 (.int .i64 0) rfl
  have b1c1 := (b1.ext X).at_ 1 (.int .i64 0) rfl
  have b1l := (b1.ext X).lts
  have b2c0 := (b2.ext X).at_ 0 (.int .i64 1) rfl
  have b2c1 := (b2.ext X).at_ 1 (.int .i64 (wrap64 (p + q))) rfl
  have b2l := (b2.ext X).lts
  repeat (go_big_quiet_step (first | (go_at_call 18; with_reducible exact calls_cl (number_any _ _)) | (go_at_call 27; with_reducible exact calls_cl (sub_num p q hp hp' _))))
  refine wpQuiet_nil ?_
  intro y7
  refine wpListE_cons rfl ?_
  go_wp2_with fail
  refine ⟨fun _ => outA (y7.out X.below) _, fun z1 => ?_⟩
  have nb := (Has.new y7.w [.int .i64 0, .int .i64 0] 24).ext z1
  have nc0 := nb.here 0 (.int .i64 0) rfl
  have nf0 := (nb.2 0 (.int .i64 0) rfl).2
  have nc1 := nb.here 1 (.int .i64 0) rfl
  have nf1 := (nb.2 1 (.int .i64 0) rfl).2
  refine wpListE_cons rfl ?_
  go_wp2_with fail
  refine ⟨fun _ => (outS (outS (z1.out (outA (y7.out X.below) _)) (p := ⟨y7.w.heap.size, 0, none⟩) (y7.out X.below).size _) (p := ⟨y7.w.heap.size, 1, none⟩) (y7.out X.below).size _), fun z2 => ?_⟩
  have nd := ((nb.set_ 0 (.int .i64 1) (by simp)).set_ 1 (.int .i64 p) (by simp)).ext z2
  clear nb nc0 nf0 nc1 nf1
  have hB := (z2.out (outS (outS (z1.out (outA (y7.out X.below) _)) (p := ⟨y7.w.heap.size, 0, none⟩) (y7.out X.below).size _) (p := ⟨y7.w.heap.size, 1, none⟩) (y7.out X.below).size _))
  refine wpListE_cons rfl ?_
  go_wp2_with fail
  refine ⟨fun _ => hB, fun z3 => ?_⟩
  replace nd := nd.ext z3
  replace hB := z3.out hB
  refine wpListE_nil ?_
  clear b0l b1l b2l b0c0 b0c1 b1c0 b1c1 b2c0 b2c1
  have tb0c0 := (b0.below hB).here 0 (.int .i64 2) rfl
  have tb0c1 := (b0.below hB).here 1 (.int .i64 0) rfl
  have tb1c0 := (b1.below hB).here 0 (.int .i64 0) rfl
  have tb1c1 := (b1.below hB).here 1 (.int .i64 0) rfl
  have tb2c0 := (b2.below hB).here 0 (.int .i64 1) rfl
  have tb2c1 := (b2.below hB).here 1 (.int .i64 (wrap64 (p + q))) rfl
  have tnd0 := nd.here 0 (.int .i64 1) rfl
  have tnd1 := nd.here 1 (.int .i64 p) rfl
  go_wp2_with fail
  clear tb0c0 tb0c1 tb1c0 tb1c1 tb2c0 tb2c1 tnd0 tnd1
  refine wp_re (fun W => Has W w.heap.size [.int .i64 2, .int .i64 0] ∧ Has W y1.w.heap.size [.int .i64 0, .int .i64 0] ∧ Has W y6.w.heap.size [.int .i64 1, .int .i64 (wrap64 (p + q))] ∧ Has W y7.w.heap.size [.int .i64 1, .int .i64 p] ∧ Below w.heap.size w W) ⟨b0.below hB, b1.below hB, b2.below hB, nd, hbl.trans (hB.mono hbl.size)⟩ ?_
  clear b0 b1 b2 nd hB hbl
  rintro W4 ⟨b0, b1, b2, b3, hbl⟩ x4
  have b0c0 := b0.at_ 0 (.int .i64 2) rfl
  have b0c1 := b0.at_ 1 (.int .i64 0) rfl
  have b0l := b0.lts
  have b1c0 := b1.at_ 0 (.int .i64 0) rfl
  have b1c1 := b1.at_ 1 (.int .i64 0) rfl
  have b1l := b1.lts
  have b2c0 := b2.at_ 0 (.int .i64 1) rfl
  have b2c1 := b2.at_ 1 (.int .i64 (wrap64 (p + q))) rfl
  have b2l := b2.lts
  have b3c0 := b3.at_ 0 (.int .i64 1) rfl
  have b3c1 := b3.at_ 1 (.int .i64 p) rfl
  have b3l := b3.lts
  refine region_cl (by kernel_rfl) (by kernel_rfl) ?_
  repeat (go_big_quiet_step (first | (go_at_call 18; with_reducible exact calls_cl (number_any _ _)) | (go_at_call 22; with_reducible exact calls_cl (awake_any _))))
  refine wpQuiet_nil ?_
  rintro w' ⟨y8, rfl⟩
  go_wp2_with fail
  go_ret
  exact Ret.of (y8.out hbl)

set_option maxRecDepth 100000 in
set_option maxHeartbeats 2000000 in
theorem walk_no_D (n g a p q : Int) (hn : n ≤ 9223372036854775807) (hn' : -9223372036854775808 ≤ n) (hp : p ≤ 9223372036854775807) (hp' : -9223372036854775808 ≤ p) (hf : fitsB g a = false) (hb : namesB n = true) (w : World) :
    Calls Try.prog 6 #[.agg #[.int .i64 2, .int .i64 n], .int .i64 g, .int .i64 a, .int .i64 p, .int .i64 q] w (Ret (.bool true) w) := by
  go_enter Try.func6, Try.ntmps6
  go_wp2_with fail
  refine calls_re (fun W => Has W w.heap.size [.int .i64 2, .int .i64 n] ∧ Below w.heap.size w W) ⟨(Has.new _ _ _), (outA (Below.refl _ _) _)⟩ ?_
  skip
  rintro W1 ⟨b0, hbl⟩ x1
  have b0c0 := b0.at_ 0 (.int .i64 2) rfl
  have b0c1 := b0.at_ 1 (.int .i64 n) rfl
  have b0l := b0.lts
  refine ((of_no g a hf _).mono ?_)
  rintro e w' h
  obtain ⟨rfl, y1, rfl⟩ := h.next (x := x1)
  go_wp2_with fail
  clear b0l b0c0 b0c1
  refine calls_re (fun W => Has W w.heap.size [.int .i64 2, .int .i64 n] ∧ Has W y1.w.heap.size [.int .i64 0, .int .i64 0] ∧ Below w.heap.size w W) ⟨((b0.ext y1).alloc _), (Has.new _ _ _), (outA (y1.out hbl) _)⟩ ?_
  clear b0 hbl
  rintro W2 ⟨b0, b1, hbl⟩ x2
  have b0c0 := b0.at_ 0 (.int .i64 2) rfl
  have b0c1 := b0.at_ 1 (.int .i64 n) rfl
  have b0l := b0.lts
  have b1c0 := b1.at_ 0 (.int .i64 0) rfl
  have b1c1 := b1.at_ 1 (.int .i64 0) rfl
  have b1l := b1.lts
  refine ((check_ok n hn true (by simp [okB, hb]) _).mono ?_)
  rintro e w' h
  obtain ⟨rfl, y2, rfl⟩ := h.next (x := x2)
  go_wp2_with fail
  refine ((isnil_any 2 n false (by have := (namesB_iff n).1 hb; simp; omega) _).mono ?_)
  rintro e w' h
  obtain ⟨rfl, y3, rfl⟩ := h.next (x := y2)
  go_wp2_with fail
  refine region_tail 8 Try.func22 rfl (by kernel_rfl) (by kernel_rfl) (by kernel_rfl) (fun _ _ d _ _ h => by cases d <;> exact h) (fun X => ?_)
  simp only [List.take_succ_cons, List.take_zero, List.drop_succ_cons, List.drop_zero]
  clear b0l b1l b0c0 b0c1 b1c0 b1c1
  have b0c0 := (b0.ext X).at_ 0 (.int .i64 2) rfl
  have b0c1 := (b0.ext X).at_ 1 (.int .i64 n) rfl
  have b0l := (b0.ext X).lts
  have b1c0 := (b1.ext X).at_ 0 (.int .i64 0) rfl
  have b1c1 := (b1.ext X).at_ 1 (.int .i64 0) rfl
  have b1l := (b1.ext X).lts
  repeat (go_big_quiet_step (first | (go_at_call 10; with_reducible exact calls_cl (gen_names n hn hn' hb _)) | (go_at_call 12; with_reducible exact calls_cl (addr_names n hn hn' hb _)) | (go_at_call 23; with_reducible exact calls_cl (of_names n hb _))))
  refine wpQuiet_nil ?_
  intro y4
  refine wpListE_cons rfl ?_
  go_wp2_with fail
  refine ⟨fun _ => outA (y4.out X.below) _, fun z1 => ?_⟩
  have nb := (Has.new y4.w [.int .i64 0, .int .i64 0] 24).ext z1
  have nc0 := nb.here 0 (.int .i64 0) rfl
  have nf0 := (nb.2 0 (.int .i64 0) rfl).2
  have nc1 := nb.here 1 (.int .i64 0) rfl
  have nf1 := (nb.2 1 (.int .i64 0) rfl).2
  refine wpListE_cons rfl ?_
  go_wp2_with fail
  refine ⟨fun _ => (outS (outS (z1.out (outA (y4.out X.below) _)) (p := ⟨y4.w.heap.size, 0, none⟩) (y4.out X.below).size _) (p := ⟨y4.w.heap.size, 1, none⟩) (y4.out X.below).size _), fun z2 => ?_⟩
  have nd := ((nb.set_ 0 (.int .i64 2) (by simp)).set_ 1 (.int .i64 n) (by simp)).ext z2
  clear nb nc0 nf0 nc1 nf1
  have hB := (z2.out (outS (outS (z1.out (outA (y4.out X.below) _)) (p := ⟨y4.w.heap.size, 0, none⟩) (y4.out X.below).size _) (p := ⟨y4.w.heap.size, 1, none⟩) (y4.out X.below).size _))
  refine wpListE_cons rfl ?_
  go_wp2_with fail
  refine ⟨fun _ => hB, fun z3 => ?_⟩
  replace nd := nd.ext z3
  replace hB := z3.out hB
  refine wpListE_nil ?_
  clear b0l b1l b0c0 b0c1 b1c0 b1c1
  have tb0c0 := (b0.below hB).here 0 (.int .i64 2) rfl
  have tb0c1 := (b0.below hB).here 1 (.int .i64 n) rfl
  have tb1c0 := (b1.below hB).here 0 (.int .i64 0) rfl
  have tb1c1 := (b1.below hB).here 1 (.int .i64 0) rfl
  have tnd0 := nd.here 0 (.int .i64 2) rfl
  have tnd1 := nd.here 1 (.int .i64 n) rfl
  go_wp2_with fail
  clear tb0c0 tb0c1 tb1c0 tb1c1 tnd0 tnd1
  refine calls_re (fun W => Has W w.heap.size [.int .i64 2, .int .i64 n] ∧ Has W y1.w.heap.size [.int .i64 0, .int .i64 0] ∧ Has W y4.w.heap.size [.int .i64 2, .int .i64 n] ∧ Below w.heap.size w W) ⟨b0.below hB, b1.below hB, nd, hbl.trans (hB.mono hbl.size)⟩ ?_
  clear b0 b1 nd hB hbl
  rintro W3 ⟨b0, b1, b2, hbl⟩ x3
  have b0c0 := b0.at_ 0 (.int .i64 2) rfl
  have b0c1 := b0.at_ 1 (.int .i64 n) rfl
  have b0l := b0.lts
  have b1c0 := b1.at_ 0 (.int .i64 0) rfl
  have b1c1 := b1.at_ 1 (.int .i64 0) rfl
  have b1l := b1.lts
  have b2c0 := b2.at_ 0 (.int .i64 2) rfl
  have b2c1 := b2.at_ 1 (.int .i64 n) rfl
  have b2l := b2.lts
  refine ((number_any _ _).mono ?_)
  rintro e w' h
  obtain ⟨rfl, y5, rfl⟩ := h.next (x := x3)
  go_wp2_with fail
  refine ((number_any _ _).mono ?_)
  rintro e w' h
  obtain ⟨rfl, y6, rfl⟩ := h.next (x := y5)
  go_wp2_with fail
  refine ((add_num p q _).mono ?_)
  rintro e w' h
  obtain ⟨rfl, y7, rfl⟩ := h.next (x := y6)
  go_wp2_with fail
  clear b0l b1l b2l b0c0 b0c1 b1c0 b1c1 b2c0 b2c1
  refine wp_re (fun W => Has W w.heap.size [.int .i64 2, .int .i64 n] ∧ Has W y1.w.heap.size [.int .i64 0, .int .i64 0] ∧ Has W y4.w.heap.size [.int .i64 2, .int .i64 n] ∧ Has W y7.w.heap.size [.int .i64 1, .int .i64 (wrap64 (p + q))] ∧ Below w.heap.size w W) ⟨((b0.ext y7).alloc _), ((b1.ext y7).alloc _), ((b2.ext y7).alloc _), (Has.new _ _ _), (outA (y7.out hbl) _)⟩ ?_
  clear b0 b1 b2 hbl
  rintro W4 ⟨b0, b1, b2, b3, hbl⟩ x4
  have b0c0 := b0.at_ 0 (.int .i64 2) rfl
  have b0c1 := b0.at_ 1 (.int .i64 n) rfl
  have b0l := b0.lts
  have b1c0 := b1.at_ 0 (.int .i64 0) rfl
  have b1c1 := b1.at_ 1 (.int .i64 0) rfl
  have b1l := b1.lts
  have b2c0 := b2.at_ 0 (.int .i64 2) rfl
  have b2c1 := b2.at_ 1 (.int .i64 n) rfl
  have b2l := b2.lts
  have b3c0 := b3.at_ 0 (.int .i64 1) rfl
  have b3c1 := b3.at_ 1 (.int .i64 (wrap64 (p + q))) rfl
  have b3l := b3.lts
  refine region_tail 7 Try.func22 rfl (by kernel_rfl) (by kernel_rfl) (by kernel_rfl) (fun _ _ d _ _ h => by cases d <;> exact h) (fun X => ?_)
  simp only [List.take_succ_cons, List.take_zero, List.drop_succ_cons, List.drop_zero]
  clear b0l b1l b2l b3l b0c0 b0c1 b1c0 b1c1 b2c0 b2c1 b3c0 b3c1
  have b0c0 := (b0.ext X).at_ 0 (.int .i64 2) rfl
  have b0c1 := (b0.ext X).at_ 1 (.int .i64 n) rfl
  have b0l := (b0.ext X).lts
  have b1c0 := (b1.ext X).at_ 0 (.int .i64 0) rfl
  have b1c1 := (b1.ext X).at_ 1 (.int .i64 0) rfl
  have b1l := (b1.ext X).lts
  have b2c0 := (b2.ext X).at_ 0 (.int .i64 2) rfl
  have b2c1 := (b2.ext X).at_ 1 (.int .i64 n) rfl
  have b2l := (b2.ext X).lts
  have b3c0 := (b3.ext X).at_ 0 (.int .i64 1) rfl
  have b3c1 := (b3.ext X).at_ 1 (.int .i64 (wrap64 (p + q))) rfl
  have b3l := (b3.ext X).lts
  repeat (go_big_quiet_step (first | (go_at_call 18; with_reducible exact calls_cl (number_any _ _)) | (go_at_call 27; with_reducible exact calls_cl (sub_num p q hp hp' _))))
  refine wpQuiet_nil ?_
  intro y8
  refine wpListE_cons rfl ?_
  go_wp2_with fail
  refine ⟨fun _ => outA (y8.out X.below) _, fun z1 => ?_⟩
  have nb := (Has.new y8.w [.int .i64 0, .int .i64 0] 24).ext z1
  have nc0 := nb.here 0 (.int .i64 0) rfl
  have nf0 := (nb.2 0 (.int .i64 0) rfl).2
  have nc1 := nb.here 1 (.int .i64 0) rfl
  have nf1 := (nb.2 1 (.int .i64 0) rfl).2
  refine wpListE_cons rfl ?_
  go_wp2_with fail
  refine ⟨fun _ => (outS (outS (z1.out (outA (y8.out X.below) _)) (p := ⟨y8.w.heap.size, 0, none⟩) (y8.out X.below).size _) (p := ⟨y8.w.heap.size, 1, none⟩) (y8.out X.below).size _), fun z2 => ?_⟩
  have nd := ((nb.set_ 0 (.int .i64 1) (by simp)).set_ 1 (.int .i64 p) (by simp)).ext z2
  clear nb nc0 nf0 nc1 nf1
  have hB := (z2.out (outS (outS (z1.out (outA (y8.out X.below) _)) (p := ⟨y8.w.heap.size, 0, none⟩) (y8.out X.below).size _) (p := ⟨y8.w.heap.size, 1, none⟩) (y8.out X.below).size _))
  refine wpListE_cons rfl ?_
  go_wp2_with fail
  refine ⟨fun _ => hB, fun z3 => ?_⟩
  replace nd := nd.ext z3
  replace hB := z3.out hB
  refine wpListE_nil ?_
  clear b0l b1l b2l b3l b0c0 b0c1 b1c0 b1c1 b2c0 b2c1 b3c0 b3c1
  have tb0c0 := (b0.below hB).here 0 (.int .i64 2) rfl
  have tb0c1 := (b0.below hB).here 1 (.int .i64 n) rfl
  have tb1c0 := (b1.below hB).here 0 (.int .i64 0) rfl
  have tb1c1 := (b1.below hB).here 1 (.int .i64 0) rfl
  have tb2c0 := (b2.below hB).here 0 (.int .i64 2) rfl
  have tb2c1 := (b2.below hB).here 1 (.int .i64 n) rfl
  have tb3c0 := (b3.below hB).here 0 (.int .i64 1) rfl
  have tb3c1 := (b3.below hB).here 1 (.int .i64 (wrap64 (p + q))) rfl
  have tnd0 := nd.here 0 (.int .i64 1) rfl
  have tnd1 := nd.here 1 (.int .i64 p) rfl
  go_wp2_with fail
  clear tb0c0 tb0c1 tb1c0 tb1c1 tb2c0 tb2c1 tb3c0 tb3c1 tnd0 tnd1
  refine wp_re (fun W => Has W w.heap.size [.int .i64 2, .int .i64 n] ∧ Has W y1.w.heap.size [.int .i64 0, .int .i64 0] ∧ Has W y4.w.heap.size [.int .i64 2, .int .i64 n] ∧ Has W y7.w.heap.size [.int .i64 1, .int .i64 (wrap64 (p + q))] ∧ Has W y8.w.heap.size [.int .i64 1, .int .i64 p] ∧ Below w.heap.size w W) ⟨b0.below hB, b1.below hB, b2.below hB, b3.below hB, nd, hbl.trans (hB.mono hbl.size)⟩ ?_
  clear b0 b1 b2 b3 nd hB hbl
  rintro W5 ⟨b0, b1, b2, b3, b4, hbl⟩ x5
  have b0c0 := b0.at_ 0 (.int .i64 2) rfl
  have b0c1 := b0.at_ 1 (.int .i64 n) rfl
  have b0l := b0.lts
  have b1c0 := b1.at_ 0 (.int .i64 0) rfl
  have b1c1 := b1.at_ 1 (.int .i64 0) rfl
  have b1l := b1.lts
  have b2c0 := b2.at_ 0 (.int .i64 2) rfl
  have b2c1 := b2.at_ 1 (.int .i64 n) rfl
  have b2l := b2.lts
  have b3c0 := b3.at_ 0 (.int .i64 1) rfl
  have b3c1 := b3.at_ 1 (.int .i64 (wrap64 (p + q))) rfl
  have b3l := b3.lts
  have b4c0 := b4.at_ 0 (.int .i64 1) rfl
  have b4c1 := b4.at_ 1 (.int .i64 p) rfl
  have b4l := b4.lts
  refine region_cl (by kernel_rfl) (by kernel_rfl) ?_
  repeat (go_big_quiet_step (first | (go_at_call 18; with_reducible exact calls_cl (number_any _ _)) | (go_at_call 22; with_reducible exact calls_cl (awake_any _))))
  refine wpQuiet_nil ?_
  rintro w' ⟨y9, rfl⟩
  go_wp2_with fail
  go_ret
  exact Ret.of (y9.out hbl)

set_option maxRecDepth 100000 in
set_option maxHeartbeats 2000000 in
theorem walk_yes_A (k n g a p q : Int) (hn : n ≤ 9223372036854775807) (hn' : -9223372036854775808 ≤ n) (hp : p ≤ 9223372036854775807) (hp' : -9223372036854775808 ≤ p) (hf : fitsB g a = true) (hk : (k == 2) = false) (w : World) :
    Calls Try.prog 6 #[.agg #[.int .i64 k, .int .i64 n], .int .i64 g, .int .i64 a, .int .i64 p, .int .i64 q] w (Ret (.bool true) w) := by
  go_enter Try.func6, Try.ntmps6
  go_wp2_with fail
  refine calls_re (fun W => Has W w.heap.size [.int .i64 k, .int .i64 n] ∧ Below w.heap.size w W) ⟨(Has.new _ _ _), (outA (Below.refl _ _) _)⟩ ?_
  skip
  rintro W1 ⟨b0, hbl⟩ x1
  have b0c0 := b0.at_ 0 (.int .i64 k) rfl
  have b0c1 := b0.at_ 1 (.int .i64 n) rfl
  have b0l := b0.lts
  refine ((of_yes g a hf _).mono ?_)
  rintro e w' h
  obtain ⟨rfl, y1, rfl⟩ := h.next (x := x1)
  go_wp2_with fail
  clear b0l b0c0 b0c1
  refine calls_re (fun W => Has W w.heap.size [.int .i64 k, .int .i64 n] ∧ Has W y1.w.heap.size [.int .i64 2, .int .i64 (g * 1048576 + a)] ∧ Below w.heap.size w W) ⟨((b0.ext y1).alloc _), (Has.new _ _ _), (outA (y1.out hbl) _)⟩ ?_
  clear b0 hbl
  rintro W2 ⟨b0, b1, hbl⟩ x2
  have b0c0 := b0.at_ 0 (.int .i64 k) rfl
  have b0c1 := b0.at_ 1 (.int .i64 n) rfl
  have b0l := b0.lts
  have b1c0 := b1.at_ 0 (.int .i64 2) rfl
  have b1c1 := b1.at_ 1 (.int .i64 (g * 1048576 + a)) rfl
  have b1l := b1.lts
  refine ((gen_of g a hf _).mono ?_)
  rintro e w' h
  obtain ⟨rfl, y2, rfl⟩ := h.next (x := x2)
  go_wp2_with fail
  refine ((addr_of g a hf _).mono ?_)
  rintro e w' h
  obtain ⟨rfl, y3, rfl⟩ := h.next (x := y2)
  go_wp2_with fail
  refine ((check_of g a hf _).mono ?_)
  rintro e w' h
  obtain ⟨rfl, y4, rfl⟩ := h.next (x := y3)
  go_wp2_with fail
  refine ((isnil_of g a hf _).mono ?_)
  rintro e w' h
  obtain ⟨rfl, y5, rfl⟩ := h.next (x := y4)
  go_wp2_with fail
  refine ((number_any _ _).mono ?_)
  rintro e w' h
  obtain ⟨rfl, y6, rfl⟩ := h.next (x := y5)
  go_wp2_with fail
  refine ((number_any _ _).mono ?_)
  rintro e w' h
  obtain ⟨rfl, y7, rfl⟩ := h.next (x := y6)
  go_wp2_with fail
  refine ((add_num p q _).mono ?_)
  rintro e w' h
  obtain ⟨rfl, y8, rfl⟩ := h.next (x := y7)
  go_wp2_with fail
  clear b0l b1l b0c0 b0c1 b1c0 b1c1
  refine wp_re (fun W => Has W w.heap.size [.int .i64 k, .int .i64 n] ∧ Has W y1.w.heap.size [.int .i64 2, .int .i64 (g * 1048576 + a)] ∧ Has W y8.w.heap.size [.int .i64 1, .int .i64 (wrap64 (p + q))] ∧ Below w.heap.size w W) ⟨((b0.ext y8).alloc _), ((b1.ext y8).alloc _), (Has.new _ _ _), (outA (y8.out hbl) _)⟩ ?_
  clear b0 b1 hbl
  rintro W3 ⟨b0, b1, b2, hbl⟩ x3
  have b0c0 := b0.at_ 0 (.int .i64 k) rfl
  have b0c1 := b0.at_ 1 (.int .i64 n) rfl
  have b0l := b0.lts
  have b1c0 := b1.at_ 0 (.int .i64 2) rfl
  have b1c1 := b1.at_ 1 (.int .i64 (g * 1048576 + a)) rfl
  have b1l := b1.lts
  have b2c0 := b2.at_ 0 (.int .i64 1) rfl
  have b2c1 := b2.at_ 1 (.int .i64 (wrap64 (p + q))) rfl
  have b2l := b2.lts
  refine region_tail 7 Try.func22 rfl (by kernel_rfl) (by kernel_rfl) (by kernel_rfl) (fun _ _ d _ _ h => by cases d <;> exact h) (fun X => ?_)
  simp only [List.take_succ_cons, List.take_zero, List.drop_succ_cons, List.drop_zero]
  clear b0l b1l b2l b0c0 b0c1 b1c0 b1c1 b2c0 b2c1
  have b0c0 := (b0.ext X).at_ 0 (.int .i64 k) rfl
  have b0c1 := (b0.ext X).at_ 1 (.int .i64 n) rfl
  have b0l := (b0.ext X).lts
  have b1c0 := (b1.ext X).at_ 0 (.int .i64 2) rfl
  have b1c1 := (b1.ext X).at_ 1 (.int .i64 (g * 1048576 + a)) rfl
  have b1l := (b1.ext X).lts
  have b2c0 := (b2.ext X).at_ 0 (.int .i64 1) rfl
  have b2c1 := (b2.ext X).at_ 1 (.int .i64 (wrap64 (p + q))) rfl
  have b2l := (b2.ext X).lts
  repeat (go_big_quiet_step (first | (go_at_call 18; with_reducible exact calls_cl (number_any _ _)) | (go_at_call 27; with_reducible exact calls_cl (sub_num p q hp hp' _))))
  refine wpQuiet_nil ?_
  intro y9
  refine wpListE_cons rfl ?_
  go_wp2_with fail
  refine ⟨fun _ => outA (y9.out X.below) _, fun z1 => ?_⟩
  have nb := (Has.new y9.w [.int .i64 0, .int .i64 0] 24).ext z1
  have nc0 := nb.here 0 (.int .i64 0) rfl
  have nf0 := (nb.2 0 (.int .i64 0) rfl).2
  have nc1 := nb.here 1 (.int .i64 0) rfl
  have nf1 := (nb.2 1 (.int .i64 0) rfl).2
  refine wpListE_cons rfl ?_
  go_wp2_with fail
  refine ⟨fun _ => (outS (outS (z1.out (outA (y9.out X.below) _)) (p := ⟨y9.w.heap.size, 0, none⟩) (y9.out X.below).size _) (p := ⟨y9.w.heap.size, 1, none⟩) (y9.out X.below).size _), fun z2 => ?_⟩
  have nd := ((nb.set_ 0 (.int .i64 1) (by simp)).set_ 1 (.int .i64 p) (by simp)).ext z2
  clear nb nc0 nf0 nc1 nf1
  have hB := (z2.out (outS (outS (z1.out (outA (y9.out X.below) _)) (p := ⟨y9.w.heap.size, 0, none⟩) (y9.out X.below).size _) (p := ⟨y9.w.heap.size, 1, none⟩) (y9.out X.below).size _))
  refine wpListE_cons rfl ?_
  go_wp2_with fail
  refine ⟨fun _ => hB, fun z3 => ?_⟩
  replace nd := nd.ext z3
  replace hB := z3.out hB
  refine wpListE_nil ?_
  clear b0l b1l b2l b0c0 b0c1 b1c0 b1c1 b2c0 b2c1
  have tb0c0 := (b0.below hB).here 0 (.int .i64 k) rfl
  have tb0c1 := (b0.below hB).here 1 (.int .i64 n) rfl
  have tb1c0 := (b1.below hB).here 0 (.int .i64 2) rfl
  have tb1c1 := (b1.below hB).here 1 (.int .i64 (g * 1048576 + a)) rfl
  have tb2c0 := (b2.below hB).here 0 (.int .i64 1) rfl
  have tb2c1 := (b2.below hB).here 1 (.int .i64 (wrap64 (p + q))) rfl
  have tnd0 := nd.here 0 (.int .i64 1) rfl
  have tnd1 := nd.here 1 (.int .i64 p) rfl
  go_wp2_with fail
  clear tb0c0 tb0c1 tb1c0 tb1c1 tb2c0 tb2c1 tnd0 tnd1
  refine wp_re (fun W => Has W w.heap.size [.int .i64 k, .int .i64 n] ∧ Has W y1.w.heap.size [.int .i64 2, .int .i64 (g * 1048576 + a)] ∧ Has W y8.w.heap.size [.int .i64 1, .int .i64 (wrap64 (p + q))] ∧ Has W y9.w.heap.size [.int .i64 1, .int .i64 p] ∧ Below w.heap.size w W) ⟨b0.below hB, b1.below hB, b2.below hB, nd, hbl.trans (hB.mono hbl.size)⟩ ?_
  clear b0 b1 b2 nd hB hbl
  rintro W4 ⟨b0, b1, b2, b3, hbl⟩ x4
  have b0c0 := b0.at_ 0 (.int .i64 k) rfl
  have b0c1 := b0.at_ 1 (.int .i64 n) rfl
  have b0l := b0.lts
  have b1c0 := b1.at_ 0 (.int .i64 2) rfl
  have b1c1 := b1.at_ 1 (.int .i64 (g * 1048576 + a)) rfl
  have b1l := b1.lts
  have b2c0 := b2.at_ 0 (.int .i64 1) rfl
  have b2c1 := b2.at_ 1 (.int .i64 (wrap64 (p + q))) rfl
  have b2l := b2.lts
  have b3c0 := b3.at_ 0 (.int .i64 1) rfl
  have b3c1 := b3.at_ 1 (.int .i64 p) rfl
  have b3l := b3.lts
  refine region_cl (by kernel_rfl) (by kernel_rfl) ?_
  repeat (go_big_quiet_step (first | (go_at_call 18; with_reducible exact calls_cl (number_any _ _)) | (go_at_call 22; with_reducible exact calls_cl (awake_any _))))
  refine wpQuiet_nil ?_
  rintro w' ⟨y10, rfl⟩
  go_wp2_with fail
  go_ret
  exact Ret.of (y10.out hbl)

set_option maxRecDepth 100000 in
set_option maxHeartbeats 2000000 in
theorem walk_yes_B (n g a p q : Int) (hn : n ≤ 9223372036854775807) (hn' : -9223372036854775808 ≤ n) (hp : p ≤ 9223372036854775807) (hp' : -9223372036854775808 ≤ p) (hf : fitsB g a = true) (hb : okB 2 n = false) (w : World) :
    Calls Try.prog 6 #[.agg #[.int .i64 2, .int .i64 n], .int .i64 g, .int .i64 a, .int .i64 p, .int .i64 q] w (Ret (.bool true) w) := by
  go_enter Try.func6, Try.ntmps6
  go_wp2_with fail
  refine calls_re (fun W => Has W w.heap.size [.int .i64 2, .int .i64 n] ∧ Below w.heap.size w W) ⟨(Has.new _ _ _), (outA (Below.refl _ _) _)⟩ ?_
  skip
  rintro W1 ⟨b0, hbl⟩ x1
  have b0c0 := b0.at_ 0 (.int .i64 2) rfl
  have b0c1 := b0.at_ 1 (.int .i64 n) rfl
  have b0l := b0.lts
  refine ((of_yes g a hf _).mono ?_)
  rintro e w' h
  obtain ⟨rfl, y1, rfl⟩ := h.next (x := x1)
  go_wp2_with fail
  clear b0l b0c0 b0c1
  refine calls_re (fun W => Has W w.heap.size [.int .i64 2, .int .i64 n] ∧ Has W y1.w.heap.size [.int .i64 2, .int .i64 (g * 1048576 + a)] ∧ Below w.heap.size w W) ⟨((b0.ext y1).alloc _), (Has.new _ _ _), (outA (y1.out hbl) _)⟩ ?_
  clear b0 hbl
  rintro W2 ⟨b0, b1, hbl⟩ x2
  have b0c0 := b0.at_ 0 (.int .i64 2) rfl
  have b0c1 := b0.at_ 1 (.int .i64 n) rfl
  have b0l := b0.lts
  have b1c0 := b1.at_ 0 (.int .i64 2) rfl
  have b1c1 := b1.at_ 1 (.int .i64 (g * 1048576 + a)) rfl
  have b1l := b1.lts
  refine ((gen_of g a hf _).mono ?_)
  rintro e w' h
  obtain ⟨rfl, y2, rfl⟩ := h.next (x := x2)
  go_wp2_with fail
  refine ((addr_of g a hf _).mono ?_)
  rintro e w' h
  obtain ⟨rfl, y3, rfl⟩ := h.next (x := y2)
  go_wp2_with fail
  refine ((check_of g a hf _).mono ?_)
  rintro e w' h
  obtain ⟨rfl, y4, rfl⟩ := h.next (x := y3)
  go_wp2_with fail
  refine ((isnil_of g a hf _).mono ?_)
  rintro e w' h
  obtain ⟨rfl, y5, rfl⟩ := h.next (x := y4)
  go_wp2_with fail
  refine ((check_ok n hn false hb _).mono ?_)
  rintro e w' h
  obtain ⟨rfl, y6, rfl⟩ := h.next (x := y5)
  go_wp2_with fail
  refine ((number_any _ _).mono ?_)
  rintro e w' h
  obtain ⟨rfl, y7, rfl⟩ := h.next (x := y6)
  go_wp2_with fail
  refine ((number_any _ _).mono ?_)
  rintro e w' h
  obtain ⟨rfl, y8, rfl⟩ := h.next (x := y7)
  go_wp2_with fail
  refine ((add_num p q _).mono ?_)
  rintro e w' h
  obtain ⟨rfl, y9, rfl⟩ := h.next (x := y8)
  go_wp2_with fail
  clear b0l b1l b0c0 b0c1 b1c0 b1c1
  refine wp_re (fun W => Has W w.heap.size [.int .i64 2, .int .i64 n] ∧ Has W y1.w.heap.size [.int .i64 2, .int .i64 (g * 1048576 + a)] ∧ Has W y9.w.heap.size [.int .i64 1, .int .i64 (wrap64 (p + q))] ∧ Below w.heap.size w W) ⟨((b0.ext y9).alloc _), ((b1.ext y9).alloc _), (Has.new _ _ _), (outA (y9.out hbl) _)⟩ ?_
  clear b0 b1 hbl
  rintro W3 ⟨b0, b1, b2, hbl⟩ x3
  have b0c0 := b0.at_ 0 (.int .i64 2) rfl
  have b0c1 := b0.at_ 1 (.int .i64 n) rfl
  have b0l := b0.lts
  have b1c0 := b1.at_ 0 (.int .i64 2) rfl
  have b1c1 := b1.at_ 1 (.int .i64 (g * 1048576 + a)) rfl
  have b1l := b1.lts
  have b2c0 := b2.at_ 0 (.int .i64 1) rfl
  have b2c1 := b2.at_ 1 (.int .i64 (wrap64 (p + q))) rfl
  have b2l := b2.lts
  refine region_tail 7 Try.func22 rfl (by kernel_rfl) (by kernel_rfl) (by kernel_rfl) (fun _ _ d _ _ h => by cases d <;> exact h) (fun X => ?_)
  simp only [List.take_succ_cons, List.take_zero, List.drop_succ_cons, List.drop_zero]
  clear b0l b1l b2l b0c0 b0c1 b1c0 b1c1 b2c0 b2c1
  have b0c0 := (b0.ext X).at_ 0 (.int .i64 2) rfl
  have b0c1 := (b0.ext X).at_ 1 (.int .i64 n) rfl
  have b0l := (b0.ext X).lts
  have b1c0 := (b1.ext X).at_ 0 (.int .i64 2) rfl
  have b1c1 := (b1.ext X).at_ 1 (.int .i64 (g * 1048576 + a)) rfl
  have b1l := (b1.ext X).lts
  have b2c0 := (b2.ext X).at_ 0 (.int .i64 1) rfl
  have b2c1 := (b2.ext X).at_ 1 (.int .i64 (wrap64 (p + q))) rfl
  have b2l := (b2.ext X).lts
  repeat (go_big_quiet_step (first | (go_at_call 18; with_reducible exact calls_cl (number_any _ _)) | (go_at_call 27; with_reducible exact calls_cl (sub_num p q hp hp' _))))
  refine wpQuiet_nil ?_
  intro y10
  refine wpListE_cons rfl ?_
  go_wp2_with fail
  refine ⟨fun _ => outA (y10.out X.below) _, fun z1 => ?_⟩
  have nb := (Has.new y10.w [.int .i64 0, .int .i64 0] 24).ext z1
  have nc0 := nb.here 0 (.int .i64 0) rfl
  have nf0 := (nb.2 0 (.int .i64 0) rfl).2
  have nc1 := nb.here 1 (.int .i64 0) rfl
  have nf1 := (nb.2 1 (.int .i64 0) rfl).2
  refine wpListE_cons rfl ?_
  go_wp2_with fail
  refine ⟨fun _ => (outS (outS (z1.out (outA (y10.out X.below) _)) (p := ⟨y10.w.heap.size, 0, none⟩) (y10.out X.below).size _) (p := ⟨y10.w.heap.size, 1, none⟩) (y10.out X.below).size _), fun z2 => ?_⟩
  have nd := ((nb.set_ 0 (.int .i64 1) (by simp)).set_ 1 (.int .i64 p) (by simp)).ext z2
  clear nb nc0 nf0 nc1 nf1
  have hB := (z2.out (outS (outS (z1.out (outA (y10.out X.below) _)) (p := ⟨y10.w.heap.size, 0, none⟩) (y10.out X.below).size _) (p := ⟨y10.w.heap.size, 1, none⟩) (y10.out X.below).size _))
  refine wpListE_cons rfl ?_
  go_wp2_with fail
  refine ⟨fun _ => hB, fun z3 => ?_⟩
  replace nd := nd.ext z3
  replace hB := z3.out hB
  refine wpListE_nil ?_
  clear b0l b1l b2l b0c0 b0c1 b1c0 b1c1 b2c0 b2c1
  have tb0c0 := (b0.below hB).here 0 (.int .i64 2) rfl
  have tb0c1 := (b0.below hB).here 1 (.int .i64 n) rfl
  have tb1c0 := (b1.below hB).here 0 (.int .i64 2) rfl
  have tb1c1 := (b1.below hB).here 1 (.int .i64 (g * 1048576 + a)) rfl
  have tb2c0 := (b2.below hB).here 0 (.int .i64 1) rfl
  have tb2c1 := (b2.below hB).here 1 (.int .i64 (wrap64 (p + q))) rfl
  have tnd0 := nd.here 0 (.int .i64 1) rfl
  have tnd1 := nd.here 1 (.int .i64 p) rfl
  go_wp2_with fail
  clear tb0c0 tb0c1 tb1c0 tb1c1 tb2c0 tb2c1 tnd0 tnd1
  refine wp_re (fun W => Has W w.heap.size [.int .i64 2, .int .i64 n] ∧ Has W y1.w.heap.size [.int .i64 2, .int .i64 (g * 1048576 + a)] ∧ Has W y9.w.heap.size [.int .i64 1, .int .i64 (wrap64 (p + q))] ∧ Has W y10.w.heap.size [.int .i64 1, .int .i64 p] ∧ Below w.heap.size w W) ⟨b0.below hB, b1.below hB, b2.below hB, nd, hbl.trans (hB.mono hbl.size)⟩ ?_
  clear b0 b1 b2 nd hB hbl
  rintro W4 ⟨b0, b1, b2, b3, hbl⟩ x4
  have b0c0 := b0.at_ 0 (.int .i64 2) rfl
  have b0c1 := b0.at_ 1 (.int .i64 n) rfl
  have b0l := b0.lts
  have b1c0 := b1.at_ 0 (.int .i64 2) rfl
  have b1c1 := b1.at_ 1 (.int .i64 (g * 1048576 + a)) rfl
  have b1l := b1.lts
  have b2c0 := b2.at_ 0 (.int .i64 1) rfl
  have b2c1 := b2.at_ 1 (.int .i64 (wrap64 (p + q))) rfl
  have b2l := b2.lts
  have b3c0 := b3.at_ 0 (.int .i64 1) rfl
  have b3c1 := b3.at_ 1 (.int .i64 p) rfl
  have b3l := b3.lts
  refine region_cl (by kernel_rfl) (by kernel_rfl) ?_
  repeat (go_big_quiet_step (first | (go_at_call 18; with_reducible exact calls_cl (number_any _ _)) | (go_at_call 22; with_reducible exact calls_cl (awake_any _))))
  refine wpQuiet_nil ?_
  rintro w' ⟨y11, rfl⟩
  go_wp2_with fail
  go_ret
  exact Ret.of (y11.out hbl)

set_option maxRecDepth 100000 in
set_option maxHeartbeats 2000000 in
theorem walk_yes_C (g a p q : Int) (hp : p ≤ 9223372036854775807) (hp' : -9223372036854775808 ≤ p) (hf : fitsB g a = true) (w : World) :
    Calls Try.prog 6 #[.agg #[.int .i64 2, .int .i64 0], .int .i64 g, .int .i64 a, .int .i64 p, .int .i64 q] w (Ret (.bool true) w) := by
  go_enter Try.func6, Try.ntmps6
  go_wp2_with fail
  refine calls_re (fun W => Has W w.heap.size [.int .i64 2, .int .i64 0] ∧ Below w.heap.size w W) ⟨(Has.new _ _ _), (outA (Below.refl _ _) _)⟩ ?_
  skip
  rintro W1 ⟨b0, hbl⟩ x1
  have b0c0 := b0.at_ 0 (.int .i64 2) rfl
  have b0c1 := b0.at_ 1 (.int .i64 0) rfl
  have b0l := b0.lts
  refine ((of_yes g a hf _).mono ?_)
  rintro e w' h
  obtain ⟨rfl, y1, rfl⟩ := h.next (x := x1)
  go_wp2_with fail
  clear b0l b0c0 b0c1
  refine calls_re (fun W => Has W w.heap.size [.int .i64 2, .int .i64 0] ∧ Has W y1.w.heap.size [.int .i64 2, .int .i64 (g * 1048576 + a)] ∧ Below w.heap.size w W) ⟨((b0.ext y1).alloc _), (Has.new _ _ _), (outA (y1.out hbl) _)⟩ ?_
  clear b0 hbl
  rintro W2 ⟨b0, b1, hbl⟩ x2
  have b0c0 := b0.at_ 0 (.int .i64 2) rfl
  have b0c1 := b0.at_ 1 (.int .i64 0) rfl
  have b0l := b0.lts
  have b1c0 := b1.at_ 0 (.int .i64 2) rfl
  have b1c1 := b1.at_ 1 (.int .i64 (g * 1048576 + a)) rfl
  have b1l := b1.lts
  refine ((gen_of g a hf _).mono ?_)
  rintro e w' h
  obtain ⟨rfl, y2, rfl⟩ := h.next (x := x2)
  go_wp2_with fail
  refine ((addr_of g a hf _).mono ?_)
  rintro e w' h
  obtain ⟨rfl, y3, rfl⟩ := h.next (x := y2)
  go_wp2_with fail
  refine ((check_of g a hf _).mono ?_)
  rintro e w' h
  obtain ⟨rfl, y4, rfl⟩ := h.next (x := y3)
  go_wp2_with fail
  refine ((isnil_of g a hf _).mono ?_)
  rintro e w' h
  obtain ⟨rfl, y5, rfl⟩ := h.next (x := y4)
  go_wp2_with fail
  refine ((check_ok 0 (by omega) true rfl _).mono ?_)
  rintro e w' h
  obtain ⟨rfl, y6, rfl⟩ := h.next (x := y5)
  go_wp2_with fail
  refine ((isnil_any 2 0 true rfl _).mono ?_)
  rintro e w' h
  obtain ⟨rfl, y7, rfl⟩ := h.next (x := y6)
  go_wp2_with fail
  refine ((number_any _ _).mono ?_)
  rintro e w' h
  obtain ⟨rfl, y8, rfl⟩ := h.next (x := y7)
  go_wp2_with fail
  refine ((number_any _ _).mono ?_)
  rintro e w' h
  obtain ⟨rfl, y9, rfl⟩ := h.next (x := y8)
  go_wp2_with fail
  refine ((add_num p q _).mono ?_)
  rintro e w' h
  obtain ⟨rfl, y10, rfl⟩ := h.next (x := y9)
  go_wp2_with fail
  clear b0l b1l b0c0 b0c1 b1c0 b1c1
  refine wp_re (fun W => Has W w.heap.size [.int .i64 2, .int .i64 0] ∧ Has W y1.w.heap.size [.int .i64 2, .int .i64 (g * 1048576 + a)] ∧ Has W y10.w.heap.size [.int .i64 1, .int .i64 (wrap64 (p + q))] ∧ Below w.heap.size w W) ⟨((b0.ext y10).alloc _), ((b1.ext y10).alloc _), (Has.new _ _ _), (outA (y10.out hbl) _)⟩ ?_
  clear b0 b1 hbl
  rintro W3 ⟨b0, b1, b2, hbl⟩ x3
  have b0c0 := b0.at_ 0 (.int .i64 2) rfl
  have b0c1 := b0.at_ 1 (.int .i64 0) rfl
  have b0l := b0.lts
  have b1c0 := b1.at_ 0 (.int .i64 2) rfl
  have b1c1 := b1.at_ 1 (.int .i64 (g * 1048576 + a)) rfl
  have b1l := b1.lts
  have b2c0 := b2.at_ 0 (.int .i64 1) rfl
  have b2c1 := b2.at_ 1 (.int .i64 (wrap64 (p + q))) rfl
  have b2l := b2.lts
  refine region_tail 7 Try.func22 rfl (by kernel_rfl) (by kernel_rfl) (by kernel_rfl) (fun _ _ d _ _ h => by cases d <;> exact h) (fun X => ?_)
  simp only [List.take_succ_cons, List.take_zero, List.drop_succ_cons, List.drop_zero]
  clear b0l b1l b2l b0c0 b0c1 b1c0 b1c1 b2c0 b2c1
  have b0c0 := (b0.ext X).at_ 0 (.int .i64 2) rfl
  have b0c1 := (b0.ext X).at_ 1 (.int .i64 0) rfl
  have b0l := (b0.ext X).lts
  have b1c0 := (b1.ext X).at_ 0 (.int .i64 2) rfl
  have b1c1 := (b1.ext X).at_ 1 (.int .i64 (g * 1048576 + a)) rfl
  have b1l := (b1.ext X).lts
  have b2c0 := (b2.ext X).at_ 0 (.int .i64 1) rfl
  have b2c1 := (b2.ext X).at_ 1 (.int .i64 (wrap64 (p + q))) rfl
  have b2l := (b2.ext X).lts
  repeat (go_big_quiet_step (first | (go_at_call 18; with_reducible exact calls_cl (number_any _ _)) | (go_at_call 27; with_reducible exact calls_cl (sub_num p q hp hp' _))))
  refine wpQuiet_nil ?_
  intro y11
  refine wpListE_cons rfl ?_
  go_wp2_with fail
  refine ⟨fun _ => outA (y11.out X.below) _, fun z1 => ?_⟩
  have nb := (Has.new y11.w [.int .i64 0, .int .i64 0] 24).ext z1
  have nc0 := nb.here 0 (.int .i64 0) rfl
  have nf0 := (nb.2 0 (.int .i64 0) rfl).2
  have nc1 := nb.here 1 (.int .i64 0) rfl
  have nf1 := (nb.2 1 (.int .i64 0) rfl).2
  refine wpListE_cons rfl ?_
  go_wp2_with fail
  refine ⟨fun _ => (outS (outS (z1.out (outA (y11.out X.below) _)) (p := ⟨y11.w.heap.size, 0, none⟩) (y11.out X.below).size _) (p := ⟨y11.w.heap.size, 1, none⟩) (y11.out X.below).size _), fun z2 => ?_⟩
  have nd := ((nb.set_ 0 (.int .i64 1) (by simp)).set_ 1 (.int .i64 p) (by simp)).ext z2
  clear nb nc0 nf0 nc1 nf1
  have hB := (z2.out (outS (outS (z1.out (outA (y11.out X.below) _)) (p := ⟨y11.w.heap.size, 0, none⟩) (y11.out X.below).size _) (p := ⟨y11.w.heap.size, 1, none⟩) (y11.out X.below).size _))
  refine wpListE_cons rfl ?_
  go_wp2_with fail
  refine ⟨fun _ => hB, fun z3 => ?_⟩
  replace nd := nd.ext z3
  replace hB := z3.out hB
  refine wpListE_nil ?_
  clear b0l b1l b2l b0c0 b0c1 b1c0 b1c1 b2c0 b2c1
  have tb0c0 := (b0.below hB).here 0 (.int .i64 2) rfl
  have tb0c1 := (b0.below hB).here 1 (.int .i64 0) rfl
  have tb1c0 := (b1.below hB).here 0 (.int .i64 2) rfl
  have tb1c1 := (b1.below hB).here 1 (.int .i64 (g * 1048576 + a)) rfl
  have tb2c0 := (b2.below hB).here 0 (.int .i64 1) rfl
  have tb2c1 := (b2.below hB).here 1 (.int .i64 (wrap64 (p + q))) rfl
  have tnd0 := nd.here 0 (.int .i64 1) rfl
  have tnd1 := nd.here 1 (.int .i64 p) rfl
  go_wp2_with fail
  clear tb0c0 tb0c1 tb1c0 tb1c1 tb2c0 tb2c1 tnd0 tnd1
  refine wp_re (fun W => Has W w.heap.size [.int .i64 2, .int .i64 0] ∧ Has W y1.w.heap.size [.int .i64 2, .int .i64 (g * 1048576 + a)] ∧ Has W y10.w.heap.size [.int .i64 1, .int .i64 (wrap64 (p + q))] ∧ Has W y11.w.heap.size [.int .i64 1, .int .i64 p] ∧ Below w.heap.size w W) ⟨b0.below hB, b1.below hB, b2.below hB, nd, hbl.trans (hB.mono hbl.size)⟩ ?_
  clear b0 b1 b2 nd hB hbl
  rintro W4 ⟨b0, b1, b2, b3, hbl⟩ x4
  have b0c0 := b0.at_ 0 (.int .i64 2) rfl
  have b0c1 := b0.at_ 1 (.int .i64 0) rfl
  have b0l := b0.lts
  have b1c0 := b1.at_ 0 (.int .i64 2) rfl
  have b1c1 := b1.at_ 1 (.int .i64 (g * 1048576 + a)) rfl
  have b1l := b1.lts
  have b2c0 := b2.at_ 0 (.int .i64 1) rfl
  have b2c1 := b2.at_ 1 (.int .i64 (wrap64 (p + q))) rfl
  have b2l := b2.lts
  have b3c0 := b3.at_ 0 (.int .i64 1) rfl
  have b3c1 := b3.at_ 1 (.int .i64 p) rfl
  have b3l := b3.lts
  refine region_cl (by kernel_rfl) (by kernel_rfl) ?_
  repeat (go_big_quiet_step (first | (go_at_call 18; with_reducible exact calls_cl (number_any _ _)) | (go_at_call 22; with_reducible exact calls_cl (awake_any _))))
  refine wpQuiet_nil ?_
  rintro w' ⟨y12, rfl⟩
  go_wp2_with fail
  go_ret
  exact Ret.of (y12.out hbl)

set_option maxRecDepth 100000 in
set_option maxHeartbeats 2000000 in
theorem walk_yes_D (n g a p q : Int) (hn : n ≤ 9223372036854775807) (hn' : -9223372036854775808 ≤ n) (hp : p ≤ 9223372036854775807) (hp' : -9223372036854775808 ≤ p) (hf : fitsB g a = true) (hb : namesB n = true) (w : World) :
    Calls Try.prog 6 #[.agg #[.int .i64 2, .int .i64 n], .int .i64 g, .int .i64 a, .int .i64 p, .int .i64 q] w (Ret (.bool true) w) := by
  go_enter Try.func6, Try.ntmps6
  go_wp2_with fail
  refine calls_re (fun W => Has W w.heap.size [.int .i64 2, .int .i64 n] ∧ Below w.heap.size w W) ⟨(Has.new _ _ _), (outA (Below.refl _ _) _)⟩ ?_
  skip
  rintro W1 ⟨b0, hbl⟩ x1
  have b0c0 := b0.at_ 0 (.int .i64 2) rfl
  have b0c1 := b0.at_ 1 (.int .i64 n) rfl
  have b0l := b0.lts
  refine ((of_yes g a hf _).mono ?_)
  rintro e w' h
  obtain ⟨rfl, y1, rfl⟩ := h.next (x := x1)
  go_wp2_with fail
  clear b0l b0c0 b0c1
  refine calls_re (fun W => Has W w.heap.size [.int .i64 2, .int .i64 n] ∧ Has W y1.w.heap.size [.int .i64 2, .int .i64 (g * 1048576 + a)] ∧ Below w.heap.size w W) ⟨((b0.ext y1).alloc _), (Has.new _ _ _), (outA (y1.out hbl) _)⟩ ?_
  clear b0 hbl
  rintro W2 ⟨b0, b1, hbl⟩ x2
  have b0c0 := b0.at_ 0 (.int .i64 2) rfl
  have b0c1 := b0.at_ 1 (.int .i64 n) rfl
  have b0l := b0.lts
  have b1c0 := b1.at_ 0 (.int .i64 2) rfl
  have b1c1 := b1.at_ 1 (.int .i64 (g * 1048576 + a)) rfl
  have b1l := b1.lts
  refine ((gen_of g a hf _).mono ?_)
  rintro e w' h
  obtain ⟨rfl, y2, rfl⟩ := h.next (x := x2)
  go_wp2_with fail
  refine ((addr_of g a hf _).mono ?_)
  rintro e w' h
  obtain ⟨rfl, y3, rfl⟩ := h.next (x := y2)
  go_wp2_with fail
  refine ((check_of g a hf _).mono ?_)
  rintro e w' h
  obtain ⟨rfl, y4, rfl⟩ := h.next (x := y3)
  go_wp2_with fail
  refine ((isnil_of g a hf _).mono ?_)
  rintro e w' h
  obtain ⟨rfl, y5, rfl⟩ := h.next (x := y4)
  go_wp2_with fail
  refine ((check_ok n hn true (by simp [okB, hb]) _).mono ?_)
  rintro e w' h
  obtain ⟨rfl, y6, rfl⟩ := h.next (x := y5)
  go_wp2_with fail
  refine ((isnil_any 2 n false (by have := (namesB_iff n).1 hb; simp; omega) _).mono ?_)
  rintro e w' h
  obtain ⟨rfl, y7, rfl⟩ := h.next (x := y6)
  go_wp2_with fail
  refine region_tail 8 Try.func22 rfl (by kernel_rfl) (by kernel_rfl) (by kernel_rfl) (fun _ _ d _ _ h => by cases d <;> exact h) (fun X => ?_)
  simp only [List.take_succ_cons, List.take_zero, List.drop_succ_cons, List.drop_zero]
  clear b0l b1l b0c0 b0c1 b1c0 b1c1
  have b0c0 := (b0.ext X).at_ 0 (.int .i64 2) rfl
  have b0c1 := (b0.ext X).at_ 1 (.int .i64 n) rfl
  have b0l := (b0.ext X).lts
  have b1c0 := (b1.ext X).at_ 0 (.int .i64 2) rfl
  have b1c1 := (b1.ext X).at_ 1 (.int .i64 (g * 1048576 + a)) rfl
  have b1l := (b1.ext X).lts
  repeat (go_big_quiet_step (first | (go_at_call 10; with_reducible exact calls_cl (gen_names n hn hn' hb _)) | (go_at_call 12; with_reducible exact calls_cl (addr_names n hn hn' hb _)) | (go_at_call 23; with_reducible exact calls_cl (of_names n hb _))))
  refine wpQuiet_nil ?_
  intro y8
  refine wpListE_cons rfl ?_
  go_wp2_with fail
  refine ⟨fun _ => outA (y8.out X.below) _, fun z1 => ?_⟩
  have nb := (Has.new y8.w [.int .i64 0, .int .i64 0] 24).ext z1
  have nc0 := nb.here 0 (.int .i64 0) rfl
  have nf0 := (nb.2 0 (.int .i64 0) rfl).2
  have nc1 := nb.here 1 (.int .i64 0) rfl
  have nf1 := (nb.2 1 (.int .i64 0) rfl).2
  refine wpListE_cons rfl ?_
  go_wp2_with fail
  refine ⟨fun _ => (outS (outS (z1.out (outA (y8.out X.below) _)) (p := ⟨y8.w.heap.size, 0, none⟩) (y8.out X.below).size _) (p := ⟨y8.w.heap.size, 1, none⟩) (y8.out X.below).size _), fun z2 => ?_⟩
  have nd := ((nb.set_ 0 (.int .i64 2) (by simp)).set_ 1 (.int .i64 n) (by simp)).ext z2
  clear nb nc0 nf0 nc1 nf1
  have hB := (z2.out (outS (outS (z1.out (outA (y8.out X.below) _)) (p := ⟨y8.w.heap.size, 0, none⟩) (y8.out X.below).size _) (p := ⟨y8.w.heap.size, 1, none⟩) (y8.out X.below).size _))
  refine wpListE_cons rfl ?_
  go_wp2_with fail
  refine ⟨fun _ => hB, fun z3 => ?_⟩
  replace nd := nd.ext z3
  replace hB := z3.out hB
  refine wpListE_nil ?_
  clear b0l b1l b0c0 b0c1 b1c0 b1c1
  have tb0c0 := (b0.below hB).here 0 (.int .i64 2) rfl
  have tb0c1 := (b0.below hB).here 1 (.int .i64 n) rfl
  have tb1c0 := (b1.below hB).here 0 (.int .i64 2) rfl
  have tb1c1 := (b1.below hB).here 1 (.int .i64 (g * 1048576 + a)) rfl
  have tnd0 := nd.here 0 (.int .i64 2) rfl
  have tnd1 := nd.here 1 (.int .i64 n) rfl
  go_wp2_with fail
  clear tb0c0 tb0c1 tb1c0 tb1c1 tnd0 tnd1
  refine calls_re (fun W => Has W w.heap.size [.int .i64 2, .int .i64 n] ∧ Has W y1.w.heap.size [.int .i64 2, .int .i64 (g * 1048576 + a)] ∧ Has W y8.w.heap.size [.int .i64 2, .int .i64 n] ∧ Below w.heap.size w W) ⟨b0.below hB, b1.below hB, nd, hbl.trans (hB.mono hbl.size)⟩ ?_
  clear b0 b1 nd hB hbl
  rintro W3 ⟨b0, b1, b2, hbl⟩ x3
  have b0c0 := b0.at_ 0 (.int .i64 2) rfl
  have b0c1 := b0.at_ 1 (.int .i64 n) rfl
  have b0l := b0.lts
  have b1c0 := b1.at_ 0 (.int .i64 2) rfl
  have b1c1 := b1.at_ 1 (.int .i64 (g * 1048576 + a)) rfl
  have b1l := b1.lts
  have b2c0 := b2.at_ 0 (.int .i64 2) rfl
  have b2c1 := b2.at_ 1 (.int .i64 n) rfl
  have b2l := b2.lts
  refine ((number_any _ _).mono ?_)
  rintro e w' h
  obtain ⟨rfl, y9, rfl⟩ := h.next (x := x3)
  go_wp2_with fail
  refine ((number_any _ _).mono ?_)
  rintro e w' h
  obtain ⟨rfl, y10, rfl⟩ := h.next (x := y9)
  go_wp2_with fail
  refine ((add_num p q _).mono ?_)
  rintro e w' h
  obtain ⟨rfl, y11, rfl⟩ := h.next (x := y10)
  go_wp2_with fail
  clear b0l b1l b2l b0c0 b0c1 b1c0 b1c1 b2c0 b2c1
  refine wp_re (fun W => Has W w.heap.size [.int .i64 2, .int .i64 n] ∧ Has W y1.w.heap.size [.int .i64 2, .int .i64 (g * 1048576 + a)] ∧ Has W y8.w.heap.size [.int .i64 2, .int .i64 n] ∧ Has W y11.w.heap.size [.int .i64 1, .int .i64 (wrap64 (p + q))] ∧ Below w.heap.size w W) ⟨((b0.ext y11).alloc _), ((b1.ext y11).alloc _), ((b2.ext y11).alloc _), (Has.new _ _ _), (outA (y11.out hbl) _)⟩ ?_
  clear b0 b1 b2 hbl
  rintro W4 ⟨b0, b1, b2, b3, hbl⟩ x4
  have b0c0 := b0.at_ 0 (.int .i64 2) rfl
  have b0c1 := b0.at_ 1 (.int .i64 n) rfl
  have b0l := b0.lts
  have b1c0 := b1.at_ 0 (.int .i64 2) rfl
  have b1c1 := b1.at_ 1 (.int .i64 (g * 1048576 + a)) rfl
  have b1l := b1.lts
  have b2c0 := b2.at_ 0 (.int .i64 2) rfl
  have b2c1 := b2.at_ 1 (.int .i64 n) rfl
  have b2l := b2.lts
  have b3c0 := b3.at_ 0 (.int .i64 1) rfl
  have b3c1 := b3.at_ 1 (.int .i64 (wrap64 (p + q))) rfl
  have b3l := b3.lts
  refine region_tail 7 Try.func22 rfl (by kernel_rfl) (by kernel_rfl) (by kernel_rfl) (fun _ _ d _ _ h => by cases d <;> exact h) (fun X => ?_)
  simp only [List.take_succ_cons, List.take_zero, List.drop_succ_cons, List.drop_zero]
  clear b0l b1l b2l b3l b0c0 b0c1 b1c0 b1c1 b2c0 b2c1 b3c0 b3c1
  have b0c0 := (b0.ext X).at_ 0 (.int .i64 2) rfl
  have b0c1 := (b0.ext X).at_ 1 (.int .i64 n) rfl
  have b0l := (b0.ext X).lts
  have b1c0 := (b1.ext X).at_ 0 (.int .i64 2) rfl
  have b1c1 := (b1.ext X).at_ 1 (.int .i64 (g * 1048576 + a)) rfl
  have b1l := (b1.ext X).lts
  have b2c0 := (b2.ext X).at_ 0 (.int .i64 2) rfl
  have b2c1 := (b2.ext X).at_ 1 (.int .i64 n) rfl
  have b2l := (b2.ext X).lts
  have b3c0 := (b3.ext X).at_ 0 (.int .i64 1) rfl
  have b3c1 := (b3.ext X).at_ 1 (.int .i64 (wrap64 (p + q))) rfl
  have b3l := (b3.ext X).lts
  repeat (go_big_quiet_step (first | (go_at_call 18; with_reducible exact calls_cl (number_any _ _)) | (go_at_call 27; with_reducible exact calls_cl (sub_num p q hp hp' _))))
  refine wpQuiet_nil ?_
  intro y12
  refine wpListE_cons rfl ?_
  go_wp2_with fail
  refine ⟨fun _ => outA (y12.out X.below) _, fun z1 => ?_⟩
  have nb := (Has.new y12.w [.int .i64 0, .int .i64 0] 24).ext z1
  have nc0 := nb.here 0 (.int .i64 0) rfl
  have nf0 := (nb.2 0 (.int .i64 0) rfl).2
  have nc1 := nb.here 1 (.int .i64 0) rfl
  have nf1 := (nb.2 1 (.int .i64 0) rfl).2
  refine wpListE_cons rfl ?_
  go_wp2_with fail
  refine ⟨fun _ => (outS (outS (z1.out (outA (y12.out X.below) _)) (p := ⟨y12.w.heap.size, 0, none⟩) (y12.out X.below).size _) (p := ⟨y12.w.heap.size, 1, none⟩) (y12.out X.below).size _), fun z2 => ?_⟩
  have nd := ((nb.set_ 0 (.int .i64 1) (by simp)).set_ 1 (.int .i64 p) (by simp)).ext z2
  clear nb nc0 nf0 nc1 nf1
  have hB := (z2.out (outS (outS (z1.out (outA (y12.out X.below) _)) (p := ⟨y12.w.heap.size, 0, none⟩) (y12.out X.below).size _) (p := ⟨y12.w.heap.size, 1, none⟩) (y12.out X.below).size _))
  refine wpListE_cons rfl ?_
  go_wp2_with fail
  refine ⟨fun _ => hB, fun z3 => ?_⟩
  replace nd := nd.ext z3
  replace hB := z3.out hB
  refine wpListE_nil ?_
  clear b0l b1l b2l b3l b0c0 b0c1 b1c0 b1c1 b2c0 b2c1 b3c0 b3c1
  have tb0c0 := (b0.below hB).here 0 (.int .i64 2) rfl
  have tb0c1 := (b0.below hB).here 1 (.int .i64 n) rfl
  have tb1c0 := (b1.below hB).here 0 (.int .i64 2) rfl
  have tb1c1 := (b1.below hB).here 1 (.int .i64 (g * 1048576 + a)) rfl
  have tb2c0 := (b2.below hB).here 0 (.int .i64 2) rfl
  have tb2c1 := (b2.below hB).here 1 (.int .i64 n) rfl
  have tb3c0 := (b3.below hB).here 0 (.int .i64 1) rfl
  have tb3c1 := (b3.below hB).here 1 (.int .i64 (wrap64 (p + q))) rfl
  have tnd0 := nd.here 0 (.int .i64 1) rfl
  have tnd1 := nd.here 1 (.int .i64 p) rfl
  go_wp2_with fail
  clear tb0c0 tb0c1 tb1c0 tb1c1 tb2c0 tb2c1 tb3c0 tb3c1 tnd0 tnd1
  refine wp_re (fun W => Has W w.heap.size [.int .i64 2, .int .i64 n] ∧ Has W y1.w.heap.size [.int .i64 2, .int .i64 (g * 1048576 + a)] ∧ Has W y8.w.heap.size [.int .i64 2, .int .i64 n] ∧ Has W y11.w.heap.size [.int .i64 1, .int .i64 (wrap64 (p + q))] ∧ Has W y12.w.heap.size [.int .i64 1, .int .i64 p] ∧ Below w.heap.size w W) ⟨b0.below hB, b1.below hB, b2.below hB, b3.below hB, nd, hbl.trans (hB.mono hbl.size)⟩ ?_
  clear b0 b1 b2 b3 nd hB hbl
  rintro W5 ⟨b0, b1, b2, b3, b4, hbl⟩ x5
  have b0c0 := b0.at_ 0 (.int .i64 2) rfl
  have b0c1 := b0.at_ 1 (.int .i64 n) rfl
  have b0l := b0.lts
  have b1c0 := b1.at_ 0 (.int .i64 2) rfl
  have b1c1 := b1.at_ 1 (.int .i64 (g * 1048576 + a)) rfl
  have b1l := b1.lts
  have b2c0 := b2.at_ 0 (.int .i64 2) rfl
  have b2c1 := b2.at_ 1 (.int .i64 n) rfl
  have b2l := b2.lts
  have b3c0 := b3.at_ 0 (.int .i64 1) rfl
  have b3c1 := b3.at_ 1 (.int .i64 (wrap64 (p + q))) rfl
  have b3l := b3.lts
  have b4c0 := b4.at_ 0 (.int .i64 1) rfl
  have b4c1 := b4.at_ 1 (.int .i64 p) rfl
  have b4l := b4.lts
  refine region_cl (by kernel_rfl) (by kernel_rfl) ?_
  repeat (go_big_quiet_step (first | (go_at_call 18; with_reducible exact calls_cl (number_any _ _)) | (go_at_call 22; with_reducible exact calls_cl (awake_any _))))
  refine wpQuiet_nil ?_
  rintro w' ⟨y13, rfl⟩
  go_wp2_with fail
  go_ret
  exact Ret.of (y13.out hbl)

theorem walk (k n g a p q : Int) (hn : n ≤ 9223372036854775807) (hn' : -9223372036854775808 ≤ n) (hp : p ≤ 9223372036854775807) (hp' : -9223372036854775808 ≤ p) (w : World) :
    Calls Try.prog 6 #[.agg #[.int .i64 k, .int .i64 n], .int .i64 g, .int .i64 a, .int .i64 p, .int .i64 q] w (Ret (.bool true) w) := by
  by_cases hf : fitsB g a = true
  · by_cases hk : k = 2
    · subst hk
      by_cases h0 : n = 0
      · subst h0
        exact walk_yes_C g a p q hp hp' hf w
      · by_cases hb : namesB n = true
        · exact walk_yes_D n g a p q hn hn' hp hp' hf hb w
        · exact walk_yes_B n g a p q hn hn' hp hp' hf (by rw [okB_ref h0]; simpa only [Bool.not_eq_true] using hb) w
    · exact walk_yes_A k n g a p q hn hn' hp hp' hf (by simp [hk]) w
  · have hf : fitsB g a = false := by simpa only [Bool.not_eq_true] using hf
    by_cases hk : k = 2
    · subst hk
      by_cases h0 : n = 0
      · subst h0
        exact walk_no_C g a p q hp hp' hf w
      · by_cases hb : namesB n = true
        · exact walk_no_D n g a p q hn hn' hp hp' hf hb w
        · exact walk_no_B n g a p q hn hn' hp hp' hf (by rw [okB_ref h0]; simpa only [Bool.not_eq_true] using hb) w
    · exact walk_no_A k n g a p q hn hn' hp hp' hf (by simp [hk]) w
theorem cellsVal : Try.prog.cellsOf 24 = 2 := by kernel_rfl


theorem own : ownKnob Try.prog.godebug = none := by kernel_rfl
set_option maxRecDepth 100000 in
theorem lifted (os : Os) (started : os.Started) (H : Type) (enc : TypeId × Value → H) :
    ReturnsInHanded {} Try.checked os 6 .any (Rows.valueBackSpec.pre6 enc Try.prog Try.f6 Rows.valueBackRow.domain false) (Rows.valueBackSpec.post enc Try.prog Try.f6 false true false false) := by
  refine law_frame (C := Try.checked) own started (by kernel_rfl) Try.func6 rfl rfl Try.underlying4 ?_ (by kernel_rfl) (by kernel_rfl)
    (ChangeSpec.witness6 (enc := enc) (C := Try.checked) false ⟨#[], #[.agg #[.int .i64 0, .int .i64 0], .int .i64 0, .int .i64 0, .int .i64 0, .int .i64 0], []⟩ 8 (by kernel_rfl) (by kernel_rfl) (by kernel_rfl) (by kernel_rfl)) ?_
  · intro ds hlen
    have hlen : ds.length = 5 := hlen.trans (by kernel_rfl)
    match ds, hlen with
    | [_, _, _, _, _], _ => rfl
  intro W base args ds p hval hA hlt hsz
  rw [Try.params6] at hA hval
  obtain ⟨v0, vs0, d0, ds0, p0, q0, hargs, rfl, rfl, h0, r0⟩ := trodAll_cons hA
  obtain ⟨v1, vs1, d1, ds1, p1, q1, rfl, rfl, rfl, h1, r1⟩ := trodAll_cons r0
  obtain ⟨v2, vs2, d2, ds2, p2, q2, rfl, rfl, rfl, h2, r2⟩ := trodAll_cons r1
  obtain ⟨v3, vs3, d3, ds3, p3, q3, rfl, rfl, rfl, h3, r3⟩ := trodAll_cons r2
  obtain ⟨v4, vs4, d4, ds4, p4, q4, rfl, rfl, rfl, h4, r4⟩ := trodAll_cons r3
  obtain ⟨rfl, rfl, rfl⟩ := trodAll_nil r4
  obtain rfl : args = #[v0, v1, v2, v3, v4] := by cases args; simp_all
  obtain ⟨c00, c01, y00, y01, m0, rfl, rfl, rfl, hy00, hy01⟩ := open_agg2 Try.underlying24 (by kernel_rfl) cellsVal (hval 0 24 v0 rfl rfl) h0
  obtain ⟨k, e00, rfl, wfk⟩ := DataW.trod_int Try.underlying22 hy00
  obtain ⟨n, e01, rfl, wfn⟩ := DataW.trod_int Try.underlying3 hy01
  simp at e00 e01
  subst e00 e01
  obtain ⟨lon, hin⟩ := bounds_i64 wfn
  obtain ⟨g, rfl, rfl, rfl, wf1⟩ := open_int Try.underlying3 (hval 1 3 v1 rfl rfl) h1
  obtain ⟨a, rfl, rfl, rfl, wf2⟩ := open_int Try.underlying3 (hval 2 3 v2 rfl rfl) h2
  obtain ⟨pp, rfl, rfl, rfl, wf3⟩ := open_int Try.underlying3 (hval 3 3 v3 rfl rfl) h3
  obtain ⟨qq, rfl, rfl, rfl, wf4⟩ := open_int Try.underlying3 (hval 4 3 v4 rfl rfl) h4
  obtain ⟨lop, hip⟩ := bounds_i64 wf3
  exact walk k n g a pp qq hin lon hip lop W

theorem over : Rows.valueBackRow.holds Try.pinned (OpenSpec.ofChange Rows.valueBackSpec) :=
  OpenClaim.holds_of_wide 6 Try.f6 rfl rfl rfl rfl rfl rfl rfl ⟨rfl, rfl, rfl, rfl, rfl⟩ rfl rfl rfl rfl rfl (by kernel_rfl) Try.func6 (by kernel_rfl)
    (of_decide_eq_true (by kernel_rfl)) (by unfold Func.isWrapper; first | (rw [if_pos (by decide +kernel)]; kernel_rfl) | (rw [if_neg (by decide +kernel)]; exact ⟨rfl, rfl⟩))
    (fun os started H enc _ => lifted os started H enc)

/-- The statement. -/
theorem proved : Rows.ValueBackSaid := over
#print axioms proved

end Back
end Go.Proofs.Ytmbigmankefedaa
