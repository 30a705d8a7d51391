/- HeldOwn. -/
import Derived.Test.YtdhgmgbpdbknhaaHeldC
namespace Go.Proofs.Ytdhgmgbpdbknhaa
open Go.ChangeShapes Go.WideShapes Go.ChangeAt Go.RowKit
namespace Held


theorem run_eql_seen (k n k' n' : Int) (w : World) : (binOp .eql 32 (.agg #[.int .i64 k, .int .i64 n]) (.agg #[.int .i64 k', .int .i64 n'])).run Try.prog w = .ok (.bool (k == k' && n == n')) w := by
  by_cases h1 : k = k' <;> by_cases h2 : n = n' <;> simp [go_sem, h1, h2]
theorem run_neq_seen (k n k' n' : Int) (w : World) : (binOp .neq 32 (.agg #[.int .i64 k, .int .i64 n]) (.agg #[.int .i64 k', .int .i64 n'])).run Try.prog w = .ok (.bool (!(k == k' && n == n'))) w := by
  by_cases h1 : k = k' <;> by_cases h2 : n = n' <;> simp [go_sem, h1, h2]
attribute [local go_sem ↓] run_eql_seen run_neq_seen
theorem Pushed.on {base b : Nat} {v r : Value} {xs xs0 : List (Int × Int)} {w0 w w' : World} {e : Ending} (hB : Below base w0 w) (hw : base ≤ w.heap.size) (ha : At base w b v xs0) (hp : Pushed base b v xs r w e w') : e = .returned r ∧ ∃ v', At base w' b v' xs ∧ Below base w0 w' ∧ base ≤ w'.heap.size := by
  obtain ⟨he, v', ha', hk, _⟩ := hp
  exact ⟨he, v', ha', hB.trans (hk.base ha hw), Nat.le_trans hw hk.size⟩
theorem Ret.on_ {base : Nat} {v : Value} {w0 w w' : World} {e : Ending} (hB : Below base w0 w) (hw : base ≤ w.heap.size) (h : Ret v w e w') : e = .returned v ∧ Below w.heap.size w w' ∧ Below base w0 w' ∧ base ≤ w'.heap.size :=
  ⟨h.1, h.2, hB.trans (h.2.mono hw), Nat.le_trans hw h.2.size⟩

set_option maxRecDepth 100000 in
theorem awake_any (w : World) : Calls Try.prog 7 #[] w (Ret (.bool true) w) := by
  go_enter Try.func7, Try.ntmps7
  go_wp2_with fail
  refine (new_any _).mono ?_
  rintro e w1 ⟨rfl, hA, hB⟩
  have hw := hB.size
  generalize hb : w.heap.size = b at hA hB hw ⊢
  have HE := Lib.hid hb
  clear hb
  have hlt := hA.has.lt
  go_wp2_with fail
  refine (add_yes b b _ [] 5 3 _ hw hA (by simp) (by omega) (by omega) (by omega) (by omega) (by simp)).mono ?_
  rintro e w' hp
  obtain ⟨rfl, v', hA', hB', hw'⟩ := hp.on hB hw hA
  clear hp hA hB hw
  have hA := hA'
  have hB := hB'
  have hw := hw'
  clear hA' hB' hw'
  have hlt := hA.has.lt
  go_wp2_with fail
  refine (add_yes b b _ [(5, 3)] 6 4 _ hw hA (by simp) (by omega) (by omega) (by omega) (by omega) (by intro j q hq; rcases j with _ | j <;> simp at hq; subst hq; decide)).mono ?_
  rintro e w' hp
  obtain ⟨rfl, v', hA', hB', hw'⟩ := hp.on hB hw hA
  clear hp hA hB hw
  have hA := hA'
  have hB := hB'
  have hw := hw'
  clear hA' hB' hw'
  have hlt := hA.has.lt
  go_wp2_with fail
  refine (add_dup b b _ [(5, 3), (6, 4)] 5 9 _ hA (by simp) (by omega) (by omega) (by omega) (by omega) ⟨0, _, rfl, rfl⟩).mono ?_
  rintro e w' h
  obtain ⟨rfl, hb, hB', hw'⟩ := Ret.on_ hB hw h
  replace hA := hA.below hb
  clear hb hB hw h
  have hB := hB'
  have hw := hw'
  clear hB' hw'
  have hlt := hA.has.lt
  go_wp2_with fail
  refine (take_some b b _ [(5, 3)] (6, 4) _ hA (by simp)).mono ?_
  rintro e w' hp
  obtain ⟨rfl, v', hA', hB', hw'⟩ := hp.on hB hw hA
  clear hp hA hB hw
  have hA := hA'
  have hB := hB'
  have hw := hw'
  clear hA' hB' hw'
  have hlt := hA.has.lt
  go_wp2_with fail
  have hx := Has.new w' [.int .i64 6, .int .i64 4] 32
  have hR : w'.heap.size ≠ b := by omega
  have hRv : v'.ownBlock ≠ some w'.heap.size := fun e => by have := (hA.row.lt _ e).1; omega
  replace hA := hA.below (below1 w' (.cells #[.int .i64 6, .int .i64 4] 32))
  replace hB := hB.trans ((below1 w' (.cells #[.int .i64 6, .int .i64 4] 32)).mono hw)
  replace hw := Nat.le_trans hw (below1 w' (.cells #[.int .i64 6, .int .i64 4] 32)).size
  clear hlt
  revert hx hR hRv hA hB hw
  generalize w'.heap.size = R
  generalize w'.alloc (.cells #[.int .i64 6, .int .i64 4] 32) = W
  intro hx hR hRv hA hB hw
  refine (take_some b b v' [] (5, 3) _ hA (by simp)).mono ?_
  rintro e w2 hp
  replace hx := res_kept hx hp.2.choose_spec.2.1 hR hRv
  obtain ⟨rfl, v2, hA2, hB2, hw2⟩ := hp.on hB hw hA
  clear hp hA hB hw hRv
  have hlt := hA2.has.lt
  go_wp2_with fail
  have hy := Has.new w2 [.int .i64 5, .int .i64 3] 32
  replace hx := hx.alloc (.cells #[.int .i64 5, .int .i64 3] 32)
  replace hA2 := hA2.below (below1 w2 (.cells #[.int .i64 5, .int .i64 3] 32))
  replace hB2 := hB2.trans ((below1 w2 (.cells #[.int .i64 5, .int .i64 3] 32)).mono hw2)
  replace hw2 := Nat.le_trans hw2 (below1 w2 (.cells #[.int .i64 5, .int .i64 3] 32)).size
  clear hlt
  revert hx hy hA2 hB2 hw2
  generalize w2.heap.size = R2
  generalize w2.alloc (.cells #[.int .i64 5, .int .i64 3] 32) = W2
  intro hx hy hA2 hB2 hw2
  refine (take_none b b v2 _ hA2).mono ?_
  rintro e w3 h
  obtain ⟨rfl, hb, hB3, hw3⟩ := Ret.on_ hB2 hw2 h
  replace hx := hx.below hb
  replace hy := hy.below hb
  have x0 := hx.here 0 _ rfl
  have x1 := hx.here 1 _ rfl
  have y0 := hy.here 0 _ rfl
  have y1 := hy.here 1 _ rfl
  have hxl := hx.lt
  have hyl := hy.lt
  clear hx hy h hA2
  go_wp2_with fail
  go_ret
  exact Ret.of (by rw [HE.out]; exact hB3.alloc hw3 _)

theorem clear_no (b : Nat) (v : Value) (w : World) (h : Has w b [.bool false, v]) : Calls Try.prog 10 #[.pointer (some ⟨b, 0, none⟩)] w (Ret (.tuple #[]) w) := by
  have hlt := h.lt
  go_enter Try.func10, Try.ntmps10
  go_wp2_with fail
  refine (live_no b v _ (h.below (by repeat (first | exact Below.refl _ _ | refine Below.drew ?_ | refine Below.alloc ?_ (by simp <;> omega) _)))).mono ?_
  rintro e w1 ⟨rfl, hb⟩
  have hb1 : Below w.heap.size w w1 := Below.trans (by repeat (first | exact Below.refl _ _ | refine Below.drew ?_ | refine Below.alloc ?_ (by simp <;> omega) _)) (hb.mono (by simp <;> omega))
  go_wp2_with fail
  go_end0
  exact Ret.of hb1

theorem clear_nil (w : World) : Calls Try.prog 10 #[.pointer none] w (Ret (.tuple #[]) w) := by
  go_enter Try.func10, Try.ntmps10
  go_wp2_with fail
  refine (live_nil _).mono ?_
  rintro e w1 ⟨rfl, hb⟩
  have hb1 : Below w.heap.size w w1 := Below.trans (by repeat (first | exact Below.refl _ _ | refine Below.drew ?_ | refine Below.alloc ?_ (by simp <;> omega) _)) (hb.mono (by simp <;> omega))
  go_wp2_with fail
  go_end0
  exact Ret.of hb1

theorem has_no (k : Int) (b : Nat) (v : Value) (w : World) (h : Has w b [.bool false, v]) : Calls Try.prog 14 #[.pointer (some ⟨b, 0, none⟩), .int .i64 k] w (Ret (.tuple #[.int .i64 0, .bool false]) w) := by
  have hlt := h.lt
  go_enter Try.func14, Try.ntmps14
  go_wp2_with fail
  go_step3
  go_wp2_with fail
  refine (live_no b v _ (h.below (by repeat (first | exact Below.refl _ _ | refine Below.drew ?_ | refine Below.alloc ?_ (by simp <;> omega) _)))).mono ?_
  rintro e w1 ⟨rfl, hb⟩
  have hb1 : Below w.heap.size w w1 := Below.trans (by repeat (first | exact Below.refl _ _ | refine Below.drew ?_ | refine Below.alloc ?_ (by simp <;> omega) _)) (hb.mono (by simp <;> omega))
  go_wp2_with fail
  rw [Exit.noGoto_ret]
  exact bodyPost_ret (v := .tuple #[.int .i64 0, .bool false]) (by simp [results, Try.results14, go_sem, *]) rfl (Ret.of (by repeat (first | exact hb1 | refine Below.drew ?_ | refine Below.setCell ?_ (by exact Nat.le_refl _) _ | refine Below.alloc ?_ (by simp [World.setCell] <;> omega) _)))

theorem has_nil (k : Int) (w : World) : Calls Try.prog 14 #[.pointer none, .int .i64 k] w (Ret (.tuple #[.int .i64 0, .bool false]) w) := by
  go_enter Try.func14, Try.ntmps14
  go_wp2_with fail
  go_step3
  go_wp2_with fail
  refine (live_nil _).mono ?_
  rintro e w1 ⟨rfl, hb⟩
  have hb1 : Below w.heap.size w w1 := Below.trans (by repeat (first | exact Below.refl _ _ | refine Below.drew ?_ | refine Below.alloc ?_ (by simp <;> omega) _)) (hb.mono (by simp <;> omega))
  go_wp2_with fail
  rw [Exit.noGoto_ret]
  exact bodyPost_ret (v := .tuple #[.int .i64 0, .bool false]) (by simp [results, Try.results14, go_sem, *]) rfl (Ret.of (by repeat (first | exact hb1 | refine Below.drew ?_ | refine Below.setCell ?_ (by exact Nat.le_refl _) _ | refine Below.alloc ?_ (by simp [World.setCell] <;> omega) _)))

theorem last_no (b : Nat) (v : Value) (w : World) (h : Has w b [.bool false, v]) : Calls Try.prog 16 #[.pointer (some ⟨b, 0, none⟩)] w (Ret (.tuple #[.agg #[.int .i64 0, .int .i64 0], .bool false]) w) := by
  have hlt := h.lt
  go_enter Try.func16, Try.ntmps16
  go_wp2_with fail
  refine (live_no b v _ (h.below (by repeat (first | exact Below.refl _ _ | refine Below.drew ?_ | refine Below.alloc ?_ (by simp <;> omega) _)))).mono ?_
  rintro e w1 ⟨rfl, hb⟩
  have hb1 : Below w.heap.size w w1 := Below.trans (by repeat (first | exact Below.refl _ _ | refine Below.drew ?_ | refine Below.alloc ?_ (by simp <;> omega) _)) (hb.mono (by simp <;> omega))
  have hr := (Has.new w [.int .i64 0, .int .i64 0] 32).below hb
  have r0 := hr.here 0 _ rfl
  have r1 := hr.here 1 _ rfl
  have rf0 := (hr.2 0 _ rfl).2
  have rf1 := (hr.2 1 _ rfl).2
  have hrl := hr.lt
  clear hr
  go_wp2_with fail
  exact bodyPost_ret (v := .tuple #[.agg #[.int .i64 0, .int .i64 0], .bool false]) (by simp [results, Try.results16, go_sem, *]) rfl (Ret.of (by repeat (first | exact hb1 | refine Below.drew ?_ | refine Below.setCell ?_ (by exact Nat.le_refl _) _ | refine Below.alloc ?_ (by simp [World.setCell] <;> omega) _)))

theorem last_nil (w : World) : Calls Try.prog 16 #[.pointer none] w (Ret (.tuple #[.agg #[.int .i64 0, .int .i64 0], .bool false]) w) := by
  go_enter Try.func16, Try.ntmps16
  go_wp2_with fail
  refine (live_nil _).mono ?_
  rintro e w1 ⟨rfl, hb⟩
  have hb1 : Below w.heap.size w w1 := Below.trans (by repeat (first | exact Below.refl _ _ | refine Below.drew ?_ | refine Below.alloc ?_ (by simp <;> omega) _)) (hb.mono (by simp <;> omega))
  have hr := (Has.new w [.int .i64 0, .int .i64 0] 32).below hb
  have r0 := hr.here 0 _ rfl
  have r1 := hr.here 1 _ rfl
  have rf0 := (hr.2 0 _ rfl).2
  have rf1 := (hr.2 1 _ rfl).2
  have hrl := hr.lt
  clear hr
  go_wp2_with fail
  exact bodyPost_ret (v := .tuple #[.agg #[.int .i64 0, .int .i64 0], .bool false]) (by simp [results, Try.results16, go_sem, *]) rfl (Ret.of (by repeat (first | exact hb1 | refine Below.drew ?_ | refine Below.setCell ?_ (by exact Nat.le_refl _) _ | refine Below.alloc ?_ (by simp [World.setCell] <;> omega) _)))

theorem take_no (b : Nat) (v : Value) (w : World) (h : Has w b [.bool false, v]) : Calls Try.prog 8 #[.pointer (some ⟨b, 0, none⟩)] w (Ret (.tuple #[.agg #[.int .i64 0, .int .i64 0], .bool false]) w) := by
  have hlt := h.lt
  go_enter Try.func8, Try.ntmps8
  go_wp2_with fail
  refine (live_no b v _ (h.below (by repeat (first | exact Below.refl _ _ | refine Below.drew ?_ | refine Below.alloc ?_ (by simp <;> omega) _)))).mono ?_
  rintro e w1 ⟨rfl, hb⟩
  have hb1 : Below w.heap.size w w1 := Below.trans (by repeat (first | exact Below.refl _ _ | refine Below.drew ?_ | refine Below.alloc ?_ (by simp <;> omega) _)) (hb.mono (by simp <;> omega))
  have hr := (Has.new w [.int .i64 0, .int .i64 0] 32).below hb
  have r0 := hr.here 0 _ rfl
  have r1 := hr.here 1 _ rfl
  have rf0 := (hr.2 0 _ rfl).2
  have rf1 := (hr.2 1 _ rfl).2
  have hrl := hr.lt
  clear hr
  go_wp2_with fail
  exact bodyPost_ret (v := .tuple #[.agg #[.int .i64 0, .int .i64 0], .bool false]) (by simp [results, Try.results8, go_sem, *]) rfl (Ret.of (by repeat (first | exact hb1 | refine Below.drew ?_ | refine Below.setCell ?_ (by exact Nat.le_refl _) _ | refine Below.alloc ?_ (by simp [World.setCell] <;> omega) _)))

theorem take_nil (w : World) : Calls Try.prog 8 #[.pointer none] w (Ret (.tuple #[.agg #[.int .i64 0, .int .i64 0], .bool false]) w) := by
  go_enter Try.func8, Try.ntmps8
  go_wp2_with fail
  refine (live_nil _).mono ?_
  rintro e w1 ⟨rfl, hb⟩
  have hb1 : Below w.heap.size w w1 := Below.trans (by repeat (first | exact Below.refl _ _ | refine Below.drew ?_ | refine Below.alloc ?_ (by simp <;> omega) _)) (hb.mono (by simp <;> omega))
  have hr := (Has.new w [.int .i64 0, .int .i64 0] 32).below hb
  have r0 := hr.here 0 _ rfl
  have r1 := hr.here 1 _ rfl
  have rf0 := (hr.2 0 _ rfl).2
  have rf1 := (hr.2 1 _ rfl).2
  have hrl := hr.lt
  clear hr
  go_wp2_with fail
  exact bodyPost_ret (v := .tuple #[.agg #[.int .i64 0, .int .i64 0], .bool false]) (by simp [results, Try.results8, go_sem, *]) rfl (Ret.of (by repeat (first | exact hb1 | refine Below.drew ?_ | refine Below.setCell ?_ (by exact Nat.le_refl _) _ | refine Below.alloc ?_ (by simp [World.setCell] <;> omega) _)))

theorem add_no (k : Int) (z : Int) (b : Nat) (v : Value) (w : World) (h : Has w b [.bool false, v]) : Calls Try.prog 12 #[.pointer (some ⟨b, 0, none⟩), .int .i64 k, .int .i64 z] w (Ret (.int .i64 4) w) := by
  have hlt := h.lt
  go_enter Try.func12, Try.ntmps12
  go_wp2_with fail
  refine (live_no b v _ (h.below (by repeat (first | exact Below.refl _ _ | refine Below.drew ?_ | refine Below.alloc ?_ (by simp <;> omega) _)))).mono ?_
  rintro e w1 ⟨rfl, hb⟩
  have hb1 : Below w.heap.size w w1 := Below.trans (by repeat (first | exact Below.refl _ _ | refine Below.drew ?_ | refine Below.alloc ?_ (by simp <;> omega) _)) (hb.mono (by simp <;> omega))
  go_wp2_with fail
  exact bodyPost_ret (v := .int .i64 4) (by simp [results, Try.results12, go_sem, *]) rfl (Ret.of (by repeat (first | exact hb1 | refine Below.drew ?_ | refine Below.setCell ?_ (by exact Nat.le_refl _) _ | refine Below.alloc ?_ (by simp [World.setCell] <;> omega) _)))

theorem add_nil (k : Int) (z : Int) (w : World) : Calls Try.prog 12 #[.pointer none, .int .i64 k, .int .i64 z] w (Ret (.int .i64 4) w) := by
  go_enter Try.func12, Try.ntmps12
  go_wp2_with fail
  refine (live_nil _).mono ?_
  rintro e w1 ⟨rfl, hb⟩
  have hb1 : Below w.heap.size w w1 := Below.trans (by repeat (first | exact Below.refl _ _ | refine Below.drew ?_ | refine Below.alloc ?_ (by simp <;> omega) _)) (hb.mono (by simp <;> omega))
  go_wp2_with fail
  exact bodyPost_ret (v := .int .i64 4) (by simp [results, Try.results12, go_sem, *]) rfl (Ret.of (by repeat (first | exact hb1 | refine Below.drew ?_ | refine Below.setCell ?_ (by exact Nat.le_refl _) _ | refine Below.alloc ?_ (by simp [World.setCell] <;> omega) _)))

theorem all_no (b : Nat) (v : Value) (w : World) (h : Has w b [.bool false, v]) : Calls Try.prog 20 #[.pointer (some ⟨b, 0, none⟩)] w (Ret (.slice none 0 0) w) := by
  have hlt := h.lt
  go_enter Try.func20, Try.ntmps20
  go_wp2_with fail
  refine (live_no b v _ (h.below (by repeat (first | exact Below.refl _ _ | refine Below.drew ?_ | refine Below.alloc ?_ (by simp <;> omega) _)))).mono ?_
  rintro e w1 ⟨rfl, hb⟩
  have hb1 : Below w.heap.size w w1 := Below.trans (by repeat (first | exact Below.refl _ _ | refine Below.drew ?_ | refine Below.alloc ?_ (by simp <;> omega) _)) (hb.mono (by simp <;> omega))
  go_wp2_with fail
  exact bodyPost_ret (v := .slice none 0 0) (by simp [results, Try.results20, go_sem, *]) rfl (Ret.of (by repeat (first | exact hb1 | refine Below.drew ?_ | refine Below.setCell ?_ (by exact Nat.le_refl _) _ | refine Below.alloc ?_ (by simp [World.setCell] <;> omega) _)))

theorem all_nil (w : World) : Calls Try.prog 20 #[.pointer none] w (Ret (.slice none 0 0) w) := by
  go_enter Try.func20, Try.ntmps20
  go_wp2_with fail
  refine (live_nil _).mono ?_
  rintro e w1 ⟨rfl, hb⟩
  have hb1 : Below w.heap.size w w1 := Below.trans (by repeat (first | exact Below.refl _ _ | refine Below.drew ?_ | refine Below.alloc ?_ (by simp <;> omega) _)) (hb.mono (by simp <;> omega))
  go_wp2_with fail
  exact bodyPost_ret (v := .slice none 0 0) (by simp [results, Try.results20, go_sem, *]) rfl (Ret.of (by repeat (first | exact hb1 | refine Below.drew ?_ | refine Below.setCell ?_ (by exact Nat.le_refl _) _ | refine Below.alloc ?_ (by simp [World.setCell] <;> omega) _)))

theorem len_no (b : Nat) (v : Value) (w : World) (h : Has w b [.bool false, v]) : Calls Try.prog 18 #[.pointer (some ⟨b, 0, none⟩)] w (Ret (.int .i64 0) w) := by
  have hlt := h.lt
  go_enter Try.func18, Try.ntmps18
  go_wp2_with fail
  refine (live_no b v _ (h.below (by repeat (first | exact Below.refl _ _ | refine Below.drew ?_ | refine Below.alloc ?_ (by simp <;> omega) _)))).mono ?_
  rintro e w1 ⟨rfl, hb⟩
  have hb1 : Below w.heap.size w w1 := Below.trans (by repeat (first | exact Below.refl _ _ | refine Below.drew ?_ | refine Below.alloc ?_ (by simp <;> omega) _)) (hb.mono (by simp <;> omega))
  go_wp2_with fail
  exact bodyPost_ret (v := .int .i64 0) (by simp [results, Try.results18, go_sem, *]) rfl (Ret.of (by repeat (first | exact hb1 | refine Below.drew ?_ | refine Below.setCell ?_ (by exact Nat.le_refl _) _ | refine Below.alloc ?_ (by simp [World.setCell] <;> omega) _)))

theorem len_nil (w : World) : Calls Try.prog 18 #[.pointer none] w (Ret (.int .i64 0) w) := by
  go_enter Try.func18, Try.ntmps18
  go_wp2_with fail
  refine (live_nil _).mono ?_
  rintro e w1 ⟨rfl, hb⟩
  have hb1 : Below w.heap.size w w1 := Below.trans (by repeat (first | exact Below.refl _ _ | refine Below.drew ?_ | refine Below.alloc ?_ (by simp <;> omega) _)) (hb.mono (by simp <;> omega))
  go_wp2_with fail
  exact bodyPost_ret (v := .int .i64 0) (by simp [results, Try.results18, go_sem, *]) rfl (Ret.of (by repeat (first | exact hb1 | refine Below.drew ?_ | refine Below.setCell ?_ (by exact Nat.le_refl _) _ | refine Below.alloc ?_ (by simp [World.setCell] <;> omega) _)))

theorem fork_no (b : Nat) (v : Value) (w : World) (h : Has w b [.bool false, v]) : Calls Try.prog 11 #[.pointer (some ⟨b, 0, none⟩)] w (Ret (.pointer none) w) := by
  have hlt := h.lt
  go_enter Try.func11, Try.ntmps11
  go_wp2_with fail
  refine (live_no b v _ (h.below (by repeat (first | exact Below.refl _ _ | refine Below.drew ?_ | refine Below.alloc ?_ (by simp <;> omega) _)))).mono ?_
  rintro e w1 ⟨rfl, hb⟩
  have hb1 : Below w.heap.size w w1 := Below.trans (by repeat (first | exact Below.refl _ _ | refine Below.drew ?_ | refine Below.alloc ?_ (by simp <;> omega) _)) (hb.mono (by simp <;> omega))
  go_wp2_with fail
  exact bodyPost_ret (v := .pointer none) (by simp [results, Try.results11, go_sem, *]) rfl (Ret.of (by repeat (first | exact hb1 | refine Below.drew ?_ | refine Below.setCell ?_ (by exact Nat.le_refl _) _ | refine Below.alloc ?_ (by simp [World.setCell] <;> omega) _)))

theorem fork_nil (w : World) : Calls Try.prog 11 #[.pointer none] w (Ret (.pointer none) w) := by
  go_enter Try.func11, Try.ntmps11
  go_wp2_with fail
  refine (live_nil _).mono ?_
  rintro e w1 ⟨rfl, hb⟩
  have hb1 : Below w.heap.size w w1 := Below.trans (by repeat (first | exact Below.refl _ _ | refine Below.drew ?_ | refine Below.alloc ?_ (by simp <;> omega) _)) (hb.mono (by simp <;> omega))
  go_wp2_with fail
  exact bodyPost_ret (v := .pointer none) (by simp [results, Try.results11, go_sem, *]) rfl (Ret.of (by repeat (first | exact hb1 | refine Below.drew ?_ | refine Below.setCell ?_ (by exact Nat.le_refl _) _ | refine Below.alloc ?_ (by simp [World.setCell] <;> omega) _)))

end Held
end Go.Proofs.Ytdhgmgbpdbknhaa
