/- Contracts of package clock. -/
import Derived.Test.YtgpholoonjglfaaTail
import Derived.Laws.LoneSync
import Derived.Laws.Pointers
namespace Go.Proofs.Ytgpholoonjglfaa
open Go.ChangeShapes Go.WideShapes Go.ChangeAt Go.RowKit
namespace Clk


/-- A clock in block b: its limit, where it is, its last stamp. -/
def cells (l a s : Int) : List Value := [.int .i64 l, .int .i64 a, .int .i64 s]
/-- A call that turns one block alone. -/
def RetM (v : Value) (b : Nat) (cs : List Value) (w : World) (e : Ending) (w' : World) : Prop := e = .returned v ∧ w.grownBy w' (some b) ∧ Has w' b cs
def p (b : Nat) : Value := .pointer (some ⟨b, 0, none⟩)

theorem made_yes (b : Nat) (l a s : Int) (w : World) (h : Has w b [.int .i64 l, .int .i64 a, .int .i64 s]) (hl : 0 < l) : Calls Try.prog 21 #[.pointer (some ⟨b, 0, none⟩)] w (Ret (.bool true) w) := by
  have c0 := h.here 0 _ rfl
  have c1 := h.here 1 _ rfl
  have c2 := h.here 2 _ rfl
  have f0 := (h.2 0 _ rfl).2
  have f1 := (h.2 1 _ rfl).2
  have f2 := (h.2 2 _ rfl).2
  go_enter Try.func21, Try.ntmps21
  go_wp2_with fail
  go_ret
  exact Ret.of (Below.refl _ _)

theorem made_no (b : Nat) (l a s : Int) (w : World) (h : Has w b [.int .i64 l, .int .i64 a, .int .i64 s]) (hl : ¬ 0 < l) : Calls Try.prog 21 #[.pointer (some ⟨b, 0, none⟩)] w (Ret (.bool false) w) := by
  have c0 := h.here 0 _ rfl
  have c1 := h.here 1 _ rfl
  have c2 := h.here 2 _ rfl
  have f0 := (h.2 0 _ rfl).2
  have f1 := (h.2 1 _ rfl).2
  have f2 := (h.2 2 _ rfl).2
  go_enter Try.func21, Try.ntmps21
  go_wp2_with fail
  go_ret
  exact Ret.of (Below.refl _ _)

theorem made_nil (w : World) : Calls Try.prog 21 #[.pointer none] w (Ret (.bool false) w) := by
  go_enter Try.func21, Try.ntmps21
  go_wp2_with fail
  go_ret
  exact Ret.of (Below.refl _ _)


theorem load_any (b o : Nat) (x : Int) (w : World) (hc : w.cell? ⟨b, o, none⟩ = some (.int .i64 x)) : Calls Try.prog 24 #[.pointer (some ⟨b, o, none⟩)] w (Ret (.int .i64 x) w) := by
  have hx := run_call_load (P := Try.prog) Try.func27 (by kernel_rfl) (by kernel_rfl) (by kernel_rfl) .i64 (by kernel_rfl) hc
  go_enter Try.func24, Try.ntmps24
  go_wp2_with fail
  go_ret
  exact Ret.of (Below.refl _ _)

theorem add_any (b o : Nat) (x y : Int) (w : World) (hc : w.cell? ⟨b, o, none⟩ = some (.int .i64 x)) (hf : w.frozen? ⟨b, o, none⟩ = false) :
    Calls Try.prog 22 #[.pointer (some ⟨b, o, none⟩), .int .i64 y] w fun e w' => e = .returned (.int .i64 (wrap64 (x + y))) ∧ w.setCell ⟨b, o, none⟩ (.int .i64 (wrap64 (x + y))) = w' := by
  have hx := run_call_add (P := Try.prog) Try.func26 (by kernel_rfl) (by kernel_rfl) (by kernel_rfl) .i64 (by kernel_rfl) (y := y) (s := wrap64 (x + y)) hc hf (by simp [go_sem, wrap64, IntKind.wrap_i64])
  go_enter Try.func22, Try.ntmps22
  go_wp2_with fail
  go_ret
  exact ⟨rfl, rfl⟩
theorem store_any (b o : Nat) (u : Value) (y : Int) (w : World) (hc : w.cell? ⟨b, o, none⟩ = some u) (hf : w.frozen? ⟨b, o, none⟩ = false) :
    Calls Try.prog 25 #[.pointer (some ⟨b, o, none⟩), .int .i64 y] w fun e w' => e = .returned (.tuple #[]) ∧ w.setCell ⟨b, o, none⟩ (.int .i64 y) = w' := by
  have hx := run_call_store (P := Try.prog) Try.func28 (by kernel_rfl) (by kernel_rfl) (by kernel_rfl) (by kernel_rfl) (k := .i64) (y := y) hc hf
  go_enter Try.func25, Try.ntmps25
  go_wp2_with fail
  go_end0
  exact ⟨rfl, rfl⟩

theorem now_yes (b : Nat) (l a s : Int) (w : World) (h : Has w b [.int .i64 l, .int .i64 a, .int .i64 s]) (hl : 0 < l) : Calls Try.prog 15 #[.pointer (some ⟨b, 0, none⟩)] w (Ret (.int .i64 a) w) := by
  have c0 := h.here 0 _ rfl
  have c1 := h.here 1 _ rfl
  have c2 := h.here 2 _ rfl
  have f0 := (h.2 0 _ rfl).2
  have f1 := (h.2 1 _ rfl).2
  have f2 := (h.2 2 _ rfl).2
  go_enter Try.func15, Try.ntmps15
  go_wp2_with fail
  refine (made_yes b l a s _ h hl).mono ?_
  rintro e w1 ⟨rfl, hb⟩
  have h1 := h.below hb
  go_wp2_with fail
  refine (load_any b 1 a _ (h1.here 1 _ rfl)).mono ?_
  rintro e w2 ⟨rfl, hb2⟩
  go_wp2_with fail
  go_ret
  exact Ret.of (ext_trans hb hb2)
theorem now_no (b : Nat) (l a s : Int) (w : World) (h : Has w b [.int .i64 l, .int .i64 a, .int .i64 s]) (hl : ¬ 0 < l) : Calls Try.prog 15 #[.pointer (some ⟨b, 0, none⟩)] w (Ret (.int .i64 0) w) := by
  go_enter Try.func15, Try.ntmps15
  go_wp2_with fail
  refine (made_no b l a s _ h (by omega)).mono ?_
  rintro e w1 ⟨rfl, hb⟩
  go_wp2_with fail
  go_ret
  exact Ret.of hb
theorem now_nil (w : World) : Calls Try.prog 15 #[.pointer none] w (Ret (.int .i64 0) w) := by
  go_enter Try.func15, Try.ntmps15
  go_wp2_with fail
  refine (made_nil _).mono ?_
  rintro e w1 ⟨rfl, hb⟩
  go_wp2_with fail
  go_ret
  exact Ret.of hb
theorem last_yes (b : Nat) (l a s : Int) (w : World) (h : Has w b [.int .i64 l, .int .i64 a, .int .i64 s]) (hl : 0 < l) : Calls Try.prog 16 #[.pointer (some ⟨b, 0, none⟩)] w (Ret (.int .i64 s) w) := by
  have c0 := h.here 0 _ rfl
  have c1 := h.here 1 _ rfl
  have c2 := h.here 2 _ rfl
  have f0 := (h.2 0 _ rfl).2
  have f1 := (h.2 1 _ rfl).2
  have f2 := (h.2 2 _ rfl).2
  go_enter Try.func16, Try.ntmps16
  go_wp2_with fail
  refine (made_yes b l a s _ h hl).mono ?_
  rintro e w1 ⟨rfl, hb⟩
  have h1 := h.below hb
  go_wp2_with fail
  refine (load_any b 2 s _ (h1.here 2 _ rfl)).mono ?_
  rintro e w2 ⟨rfl, hb2⟩
  go_wp2_with fail
  go_ret
  exact Ret.of (ext_trans hb hb2)
theorem last_no (b : Nat) (l a s : Int) (w : World) (h : Has w b [.int .i64 l, .int .i64 a, .int .i64 s]) (hl : ¬ 0 < l) : Calls Try.prog 16 #[.pointer (some ⟨b, 0, none⟩)] w (Ret (.int .i64 0) w) := by
  go_enter Try.func16, Try.ntmps16
  go_wp2_with fail
  refine (made_no b l a s _ h (by omega)).mono ?_
  rintro e w1 ⟨rfl, hb⟩
  go_wp2_with fail
  go_ret
  exact Ret.of hb
theorem last_nil (w : World) : Calls Try.prog 16 #[.pointer none] w (Ret (.int .i64 0) w) := by
  go_enter Try.func16, Try.ntmps16
  go_wp2_with fail
  refine (made_nil _).mono ?_
  rintro e w1 ⟨rfl, hb⟩
  go_wp2_with fail
  go_ret
  exact Ret.of hb

theorem next_yes (b : Nat) (l a s : Int) (w : World) (h : Has w b [.int .i64 l, .int .i64 a, .int .i64 s]) (hl : 0 < l) : Calls Try.prog 10 #[.pointer (some ⟨b, 0, none⟩)] w (RetM (.int .i64 (wrap64 (a + 1))) b [.int .i64 l, .int .i64 (wrap64 (a + 1)), .int .i64 s] w) := by
  go_enter Try.func10, Try.ntmps10
  go_wp2_with fail
  refine (made_yes b l a s _ h hl).mono ?_
  rintro e w1 ⟨rfl, hb⟩
  have h1 := h.below hb
  go_wp2_with fail
  refine (add_any b 1 a 1 _ (h1.here 1 _ rfl) (h1.2 1 _ rfl).2).mono ?_
  rintro e w2 ⟨rfl, rfl⟩
  go_wp2_with fail
  go_ret
  exact ⟨rfl, grown_set (grown_of hb _) 1 _, h1.set_ 1 _ (by simp)⟩
theorem next_no (b : Nat) (l a s : Int) (w : World) (h : Has w b [.int .i64 l, .int .i64 a, .int .i64 s]) (hl : ¬ 0 < l) : Calls Try.prog 10 #[.pointer (some ⟨b, 0, none⟩)] w (Ret (.int .i64 0) w) := by
  go_enter Try.func10, Try.ntmps10
  go_wp2_with fail
  refine (made_no b l a s _ h (by omega)).mono ?_
  rintro e w1 ⟨rfl, hb⟩
  go_wp2_with fail
  go_ret
  exact Ret.of hb
theorem next_nil (w : World) : Calls Try.prog 10 #[.pointer none] w (Ret (.int .i64 0) w) := by
  go_enter Try.func10, Try.ntmps10
  go_wp2_with fail
  refine (made_nil _).mono ?_
  rintro e w1 ⟨rfl, hb⟩
  go_wp2_with fail
  go_ret
  exact Ret.of hb
theorem stamp_yes (b : Nat) (l a s : Int) (w : World) (h : Has w b [.int .i64 l, .int .i64 a, .int .i64 s]) (hl : 0 < l) : Calls Try.prog 12 #[.pointer (some ⟨b, 0, none⟩)] w (RetM (.int .i64 (wrap64 (s + 1))) b [.int .i64 l, .int .i64 a, .int .i64 (wrap64 (s + 1))] w) := by
  go_enter Try.func12, Try.ntmps12
  go_wp2_with fail
  refine (made_yes b l a s _ h hl).mono ?_
  rintro e w1 ⟨rfl, hb⟩
  have h1 := h.below hb
  go_wp2_with fail
  refine (add_any b 2 s 1 _ (h1.here 2 _ rfl) (h1.2 2 _ rfl).2).mono ?_
  rintro e w2 ⟨rfl, rfl⟩
  go_wp2_with fail
  go_ret
  exact ⟨rfl, grown_set (grown_of hb _) 2 _, h1.set_ 2 _ (by simp)⟩
theorem stamp_no (b : Nat) (l a s : Int) (w : World) (h : Has w b [.int .i64 l, .int .i64 a, .int .i64 s]) (hl : ¬ 0 < l) : Calls Try.prog 12 #[.pointer (some ⟨b, 0, none⟩)] w (Ret (.int .i64 0) w) := by
  go_enter Try.func12, Try.ntmps12
  go_wp2_with fail
  refine (made_no b l a s _ h (by omega)).mono ?_
  rintro e w1 ⟨rfl, hb⟩
  go_wp2_with fail
  go_ret
  exact Ret.of hb
theorem stamp_nil (w : World) : Calls Try.prog 12 #[.pointer none] w (Ret (.int .i64 0) w) := by
  go_enter Try.func12, Try.ntmps12
  go_wp2_with fail
  refine (made_nil _).mono ?_
  rintro e w1 ⟨rfl, hb⟩
  go_wp2_with fail
  go_ret
  exact Ret.of hb

/-- A call that makes a new block. -/
def RetNew (f : Nat → Value) (cs : List Value) (w : World) (e : Ending) (w' : World) : Prop := ∃ b, e = .returned (f b) ∧ w.heap.size ≤ b ∧ Below w.heap.size w w' ∧ Has w' b cs
theorem new_yes (l : Int) (h1 : 1 ≤ l) (h2 : l ≤ 1099511627776) (w : World) : Calls Try.prog 7 #[.int .i64 l] w (RetNew (fun b => .tuple #[.pointer (some ⟨b, 0, none⟩), .int .i64 0]) [.int .i64 l, .int .i64 0, .int .i64 0] w) := by
  go_enter Try.func7, Try.ntmps7
  go_wp2_with fail
  go_ret2
  exact ⟨w.heap.size, rfl, Nat.le_refl _, below1 _ _, Has.new _ _ _⟩
theorem new_low (l : Int) (h1 : l < 1) (w : World) : Calls Try.prog 7 #[.int .i64 l] w (Ret (.tuple #[.pointer none, .int .i64 1]) w) := by
  go_enter Try.func7, Try.ntmps7
  go_wp2_with fail
  go_ret2
  exact Ret.of (Below.refl _ _)
theorem new_high (l : Int) (h1 : 1099511627776 < l) (w : World) : Calls Try.prog 7 #[.int .i64 l] w (Ret (.tuple #[.pointer none, .int .i64 1]) w) := by
  have h2 : ¬ l < 1 := by omega
  go_enter Try.func7, Try.ntmps7
  go_wp2_with fail
  go_ret2
  exact Ret.of (Below.refl _ _)

theorem left_yes (b : Nat) (l a s : Int) (w : World) (h : Has w b [.int .i64 l, .int .i64 a, .int .i64 s]) (hl : 0 < l) (ha : 0 ≤ a) (ha' : a ≤ 9223372036854775807) (hl' : l ≤ 1099511627776) (hal : a < l) : Calls Try.prog 19 #[.pointer (some ⟨b, 0, none⟩)] w (Ret (.int .i64 (l - a)) w) := by
  go_enter Try.func19, Try.ntmps19
  go_wp2_with fail
  refine (made_yes b l a s _ h hl).mono ?_
  rintro e w1 ⟨rfl, hb⟩
  have h1 := h.below hb
  go_wp2_with fail
  refine wp_cl fun x => ?_
  have c0 := h1.at_ 0 _ rfl
  have q0 : IntKind.i64.wrap (l - a) = l - a := IntWalk.i64_in _ (by omega)
  refine region_cl (x := x) (by kernel_rfl) (by kernel_rfl) ?_
  repeat (go_big_quiet_step ((go_at_call 15; exact calls_cl (now_yes b l a s _ (h1.ext _) hl))))
  refine wpQuiet_nil ?_
  rintro w' ⟨y, rfl⟩
  go_wp2_with fail
  go_ret
  exact Ret.of (y.out hb)
theorem left_full (b : Nat) (l a s : Int) (w : World) (h : Has w b [.int .i64 l, .int .i64 a, .int .i64 s]) (hl : 0 < l) (ha : 0 ≤ a) (ha' : a ≤ 9223372036854775807) (hl' : l ≤ 1099511627776) (hal : l ≤ a) : Calls Try.prog 19 #[.pointer (some ⟨b, 0, none⟩)] w (Ret (.int .i64 0) w) := by
  go_enter Try.func19, Try.ntmps19
  go_wp2_with fail
  refine (made_yes b l a s _ h hl).mono ?_
  rintro e w1 ⟨rfl, hb⟩
  have h1 := h.below hb
  go_wp2_with fail
  refine wp_cl fun x => ?_
  have c0 := h1.at_ 0 _ rfl
  have q0 : IntKind.i64.wrap (l - a) = l - a := IntWalk.i64_in _ (by omega)
  refine region_cl (x := x) (by kernel_rfl) (by kernel_rfl) ?_
  repeat (go_big_quiet_step ((go_at_call 15; exact calls_cl (now_yes b l a s _ (h1.ext _) hl))))
  refine wpQuiet_nil ?_
  rintro w' ⟨y, rfl⟩
  go_wp2_with fail
  go_ret
  exact Ret.of (y.out hb)
theorem left_no (b : Nat) (l a s : Int) (w : World) (h : Has w b [.int .i64 l, .int .i64 a, .int .i64 s]) (hl : ¬ 0 < l) : Calls Try.prog 19 #[.pointer (some ⟨b, 0, none⟩)] w (Ret (.int .i64 0) w) := by
  go_enter Try.func19, Try.ntmps19
  go_wp2_with fail
  refine (made_no b l a s _ h (by omega)).mono ?_
  rintro e w1 ⟨rfl, hb⟩
  go_wp2_with fail
  go_ret
  exact Ret.of hb
theorem left_nil (w : World) : Calls Try.prog 19 #[.pointer none] w (Ret (.int .i64 0) w) := by
  go_enter Try.func19, Try.ntmps19
  go_wp2_with fail
  refine (made_nil _).mono ?_
  rintro e w1 ⟨rfl, hb⟩
  go_wp2_with fail
  go_ret
  exact Ret.of hb

theorem full_yes (b : Nat) (l a s : Int) (w : World) (h : Has w b [.int .i64 l, .int .i64 a, .int .i64 s]) (hl : 0 < l) (ha : 0 ≤ a) (ha' : a ≤ 9223372036854775807) (hl' : l ≤ 1099511627776) (hal : l ≤ a) : Calls Try.prog 17 #[.pointer (some ⟨b, 0, none⟩)] w (Ret (.bool true) w) := by
  go_enter Try.func17, Try.ntmps17
  go_wp2_with fail
  refine (left_full b l a s _ h hl ha ha' hl' hal).mono ?_
  rintro e w1 ⟨rfl, hb⟩
  go_wp2_with fail
  go_ret
  exact Ret.of hb
theorem full_not (b : Nat) (l a s : Int) (w : World) (h : Has w b [.int .i64 l, .int .i64 a, .int .i64 s]) (hl : 0 < l) (ha : 0 ≤ a) (ha' : a ≤ 9223372036854775807) (hl' : l ≤ 1099511627776) (hal : a < l) : Calls Try.prog 17 #[.pointer (some ⟨b, 0, none⟩)] w (Ret (.bool false) w) := by
  have q : (l - a == 0) = false := by simp; omega
  go_enter Try.func17, Try.ntmps17
  go_wp2_with fail
  refine (left_yes b l a s _ h hl ha ha' hl' hal).mono ?_
  rintro e w1 ⟨rfl, hb⟩
  go_wp2_with fail
  go_ret
  exact Ret.of hb
theorem full_no (b : Nat) (l a s : Int) (w : World) (h : Has w b [.int .i64 l, .int .i64 a, .int .i64 s]) (hl : ¬ 0 < l) : Calls Try.prog 17 #[.pointer (some ⟨b, 0, none⟩)] w (Ret (.bool true) w) := by
  go_enter Try.func17, Try.ntmps17
  go_wp2_with fail
  refine (left_no b l a s _ h (by omega)).mono ?_
  rintro e w1 ⟨rfl, hb⟩
  go_wp2_with fail
  go_ret
  exact Ret.of hb
theorem full_nil (w : World) : Calls Try.prog 17 #[.pointer none] w (Ret (.bool true) w) := by
  go_enter Try.func17, Try.ntmps17
  go_wp2_with fail
  refine (left_nil _).mono ?_
  rintro e w1 ⟨rfl, hb⟩
  go_wp2_with fail
  go_ret
  exact Ret.of hb
theorem fork_no (b : Nat) (l a s : Int) (w : World) (h : Has w b [.int .i64 l, .int .i64 a, .int .i64 s]) (hl : ¬ 0 < l) : Calls Try.prog 14 #[.pointer (some ⟨b, 0, none⟩)] w (Ret (.pointer none) w) := by
  go_enter Try.func14, Try.ntmps14
  go_wp2_with fail
  refine (made_no b l a s _ h (by omega)).mono ?_
  rintro e w1 ⟨rfl, hb⟩
  go_wp2_with fail
  go_ret
  exact Ret.of hb
theorem fork_nil (w : World) : Calls Try.prog 14 #[.pointer none] w (Ret (.pointer none) w) := by
  go_enter Try.func14, Try.ntmps14
  go_wp2_with fail
  refine (made_nil _).mono ?_
  rintro e w1 ⟨rfl, hb⟩
  go_wp2_with fail
  go_ret
  exact Ret.of hb

theorem load_same (b o : Nat) (x : Int) (w : World) (hc : w.cell? ⟨b, o, none⟩ = some (.int .i64 x)) : Calls Try.prog 24 #[.pointer (some ⟨b, o, none⟩)] w fun e w' => e = .returned (.int .i64 x) ∧ w = w' := by
  have hx := run_call_load (P := Try.prog) Try.func27 (by kernel_rfl) (by kernel_rfl) (by kernel_rfl) .i64 (by kernel_rfl) hc
  go_enter Try.func24, Try.ntmps24
  go_wp2_with fail
  go_ret
  exact ⟨rfl, rfl⟩
theorem hand_any (b o b' o' : Nat) (x : Int) (u : Value) (w : World) (hc : w.cell? ⟨b, o, none⟩ = some (.int .i64 x)) (hc' : w.cell? ⟨b', o', none⟩ = some u) (hf : w.frozen? ⟨b', o', none⟩ = false) :
    Calls Try.prog 23 #[.func (.func 24) #[.pointer (some ⟨b, o, none⟩)] #[], .func (.func 25) #[.pointer (some ⟨b', o', none⟩)] #[]] w fun e w' => e = .returned (.tuple #[]) ∧ w.setCell ⟨b', o', none⟩ (.int .i64 x) = w' := by
  go_enter Try.func23, Try.ntmps23
  go_wp2_with fail
  refine (load_same b o x _ hc).mono ?_
  rintro e w1 ⟨rfl, rfl⟩
  go_wp2_with fail
  refine (store_any b' o' u x _ hc' hf).mono ?_
  rintro e w2 ⟨rfl, rfl⟩
  go_wp2_with fail
  go_end0
  exact ⟨rfl, rfl⟩

theorem fork_yes (b : Nat) (l a s : Int) (w : World) (h : Has w b [.int .i64 l, .int .i64 a, .int .i64 s]) (hl : 0 < l) : Calls Try.prog 14 #[.pointer (some ⟨b, 0, none⟩)] w (RetNew (fun b => .pointer (some ⟨b, 0, none⟩)) [.int .i64 l, .int .i64 a, .int .i64 s] w) := by
  have hbw := h.lt
  go_enter Try.func14, Try.ntmps14
  go_wp2_with fail
  refine (made_yes b l a s _ h hl).mono ?_
  rintro e w1 ⟨rfl, hb⟩
  have h1 := h.below hb
  have c0 := h1.here 0 _ rfl
  go_wp2_with fail
  have hge := hb.size
  refine wp_re (fun W => Has W b [.int .i64 l, .int .i64 a, .int .i64 s] ∧ Has W w1.heap.size [.int .i64 l, .int .i64 0, .int .i64 0] ∧ Below w.heap.size w W) ⟨h1.alloc _, Has.new _ _ _, outA hb _⟩ ?_
  clear h1 hb c0 h
  rintro W ⟨h1, g1, hb⟩ x
  generalize w1.heap.size = bn at *
  have hne : bn ≠ b := by omega
  refine region_last 8 Try.func9 rfl (by kernel_rfl) (by kernel_rfl) (by kernel_rfl) (by kernel_rfl) (fun _ _ d _ _ h => by cases d <;> exact h) (fun X => ?_)
  simp only [List.take_succ_cons, List.take_zero, List.drop_succ_cons, List.drop_zero]
  repeat (go_big_quiet_step (fail))
  refine wpQuiet_nil ?_
  intro y
  have h2 := (h1.ext X).ext y
  have g2 := (g1.ext X).ext y
  refine wpListE_cons rfl ?_
  go_wp2_with fail
  refine (hand_any b 1 bn 1 a (.int .i64 0) _ (h2.here 1 _ rfl) (g2.here 1 _ rfl) (g2.2 1 _ rfl).2).mono ?_
  rintro e w2 ⟨rfl, rfl⟩
  go_wp2_with fail
  refine ⟨(fun h => by cases h), fun z => ?_⟩
  have h3 := (h2.far (p := ⟨bn, 1, none⟩) hne (.int .i64 a)).ext z
  have g3 := (g2.set_ 1 (.int .i64 a) (by simp)).ext z
  have hb3 : Below w.heap.size w z.w := z.out (outS (y.out (X.out hb)) (p := ⟨bn, 1, none⟩) hge _)
  clear h1 g1 h2 g2 hb
  refine wpListE_nil ?_
  go_wp2_with fail
  refine wp_re (fun W => Has W b [.int .i64 l, .int .i64 a, .int .i64 s] ∧ Has W bn [.int .i64 l, .int .i64 a, .int .i64 0] ∧ Below w.heap.size w W) ⟨h3, g3, hb3⟩ ?_
  clear h3 g3 hb3
  rintro W2 ⟨h1, g1, hb⟩ x2
  refine region_last 8 Try.func9 rfl (by kernel_rfl) (by kernel_rfl) (by kernel_rfl) (by kernel_rfl) (fun _ _ d _ _ h => by cases d <;> exact h) (fun X => ?_)
  simp only [List.take_succ_cons, List.take_zero, List.drop_succ_cons, List.drop_zero]
  repeat (go_big_quiet_step (fail))
  refine wpQuiet_nil ?_
  intro y
  have h2 := (h1.ext X).ext y
  have g2 := (g1.ext X).ext y
  refine wpListE_cons rfl ?_
  go_wp2_with fail
  refine (hand_any b 2 bn 2 s (.int .i64 0) _ (h2.here 2 _ rfl) (g2.here 2 _ rfl) (g2.2 2 _ rfl).2).mono ?_
  rintro e w2 ⟨rfl, rfl⟩
  go_wp2_with fail
  refine ⟨(fun h => by cases h), fun z => ?_⟩
  have h3 := (h2.far (p := ⟨bn, 2, none⟩) hne (.int .i64 s)).ext z
  have g3 := (g2.set_ 2 (.int .i64 s) (by simp)).ext z
  have hb3 : Below w.heap.size w z.w := z.out (outS (y.out (X.out hb)) (p := ⟨bn, 2, none⟩) hge _)
  clear h1 g1 h2 g2 hb
  refine wpListE_nil ?_
  go_wp2_with fail
  go_ret
  exact ⟨bn, rfl, hge, hb3, g3⟩

end Clk
end Go.Proofs.Ytgpholoonjglfaa
