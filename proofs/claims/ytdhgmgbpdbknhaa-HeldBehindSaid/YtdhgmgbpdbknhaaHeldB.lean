/- Contracts of package held. -/
import Derived.Test.YtdhgmgbpdbknhaaHeldA
namespace Go.Proofs.Ytdhgmgbpdbknhaa
open Go.ChangeShapes Go.WideShapes Go.ChangeAt Go.RowKit
namespace Held


theorem Row.last {base : Nat} {w : World} {v : Value} {xs : List (Int × Int)} {p : Int × Int} (h : Row base w v (xs ++ [p])) : ∃ g c, v = .slice (some ⟨g, 0, none⟩) (xs.length + 1) c ∧ xs.length + 1 ≤ c ∧ g < w.heap.size ∧ w.cell? ⟨g, xs.length * 2, none⟩ = some (.int .i64 p.1) ∧ w.cell? ⟨g, xs.length * 2 + 1, none⟩ = some (.int .i64 p.2) := by
  have := h.at_ xs.length p (by simp)
  simpa using this
theorem live_yes (b : Nat) (v : Value) (w : World) (h : Has w b [.bool true, v]) : Calls Try.prog 21 #[.pointer (some ⟨b, 0, none⟩)] w (Ret (.bool true) w) := by
  have c0 := h.here 0 _ rfl
  go_enter Try.func21, Try.ntmps21
  go_wp2_with fail
  go_ret
  exact Ret.of (Below.refl _ _)

theorem live_no (b : Nat) (v : Value) (w : World) (h : Has w b [.bool false, v]) : Calls Try.prog 21 #[.pointer (some ⟨b, 0, none⟩)] w (Ret (.bool false) w) := by
  have c0 := h.here 0 _ rfl
  go_enter Try.func21, Try.ntmps21
  go_wp2_with fail
  go_ret
  exact Ret.of (Below.refl _ _)

theorem live_nil (w : World) : Calls Try.prog 21 #[.pointer none] w (Ret (.bool false) w) := by
  go_enter Try.func21, Try.ntmps21
  go_wp2_with fail
  go_ret
  exact Ret.of (Below.refl _ _)

theorem new_any (w : World) : Calls Try.prog 6 #[] w fun e w' => e = .returned (.pointer (some ⟨w.heap.size, 0, none⟩)) ∧ At w.heap.size w' w.heap.size (.slice none 0 0) [] ∧ Below w.heap.size w w' := by
  go_enter Try.func6, Try.ntmps6
  go_wp2_with fail
  go_ret
  exact ⟨rfl, ⟨Has.new _ _ _, ⟨rfl, Or.inl ⟨rfl, rfl⟩⟩, by simp [Value.ownBlock], Nat.le_refl _⟩, below1 _ _⟩
theorem len_any (base b : Nat) (v : Value) (xs : List (Int × Int)) (w : World) (h : At base w b v xs) : Calls Try.prog 18 #[.pointer (some ⟨b, 0, none⟩)] w (Ret (.int .i64 xs.length) w) := by
  obtain ⟨A, c, rfl, hc, hm⟩ := h.row.shape
  go_enter Try.func18, Try.ntmps18
  go_wp2_with fail
  refine (live_yes b _ w h.has).mono ?_
  rintro e w' ⟨rfl, hb⟩
  have c1 := (h.has.below hb).here 1 _ rfl
  go_wp2_with fail
  go_ret
  exact Ret.of hb
set_option maxRecDepth 100000 in
theorem top_some (base b : Nat) (v : Value) (xs : List (Int × Int)) (p : Int × Int) (w : World) (h : At base w b v (xs ++ [p])) (hn : xs.length ≤ 1000) : Calls Try.prog 24 #[.pointer (some ⟨b, 1, none⟩)] w (Ret (.tuple #[.agg #[.int .i64 p.1, .int .i64 p.2], .bool true]) w) := by
  obtain ⟨g, c, rfl, hc, hg, k0, k1⟩ := h.row.last
  have c1 := h.has.here 1 _ rfl
  have hlt := h.has.lt
  clear h
  generalize xs.length = n at *
  have q : (0 : Int) ≤ (n : Int) := Int.natCast_nonneg _
  have hd : decide (((n : Int) + 1) = 0) = false := by simp; omega
  have hi : (n : Int) + 1 - 1 = n := by omega
  go_enter Try.func24, Try.ntmps24
  go_wp2_with fail
  go_region
  all_goals go_wp2_with fail
  all_goals exact bodyPost_ret (v := .tuple #[.agg #[.int .i64 p.1, .int .i64 p.2], .bool true]) (by simp [results, Try.results24, go_sem]) rfl (Ret.of (by repeat (first | exact Below.refl _ _ | refine Below.drew ?_ | refine Below.alloc ?_ (by simp <;> omega) _)))
theorem top_none (base b : Nat) (v : Value) (w : World) (h : At base w b v []) : Calls Try.prog 24 #[.pointer (some ⟨b, 1, none⟩)] w (Ret (.tuple #[.agg #[.int .i64 0, .int .i64 0], .bool false]) w) := by
  obtain ⟨A, c, rfl, hc, hm⟩ := h.row.shape
  have c1 := h.has.here 1 _ rfl
  have hlt := h.has.lt
  clear h
  go_enter Try.func24, Try.ntmps24
  go_wp2_with fail
  exact bodyPost_ret (v := .tuple #[.agg #[.int .i64 0, .int .i64 0], .bool false]) (by simp [results, Try.results24, go_sem]) rfl (Ret.of (below2 _ _ _))

theorem Keep.of_below {w w' : World} {b : Nat} {v : Value} (h : Below w.heap.size w w') : Keep w w' b v := ⟨h.os, h.tape, h.output, h.size, fun k hk _ _ => h.block k hk⟩
theorem Keep.trans_below {w w' w'' : World} {b : Nat} {v : Value} (h : Keep w w' b v) (k : Below w'.heap.size w' w'') : Keep w w'' b v := ⟨k.os.trans h.os, k.tape.trans h.tape, k.output.trans h.output, Nat.le_trans h.size k.size, fun j hj h1 h2 => (k.block j (Nat.lt_of_lt_of_le hj h.size)).trans (h.block j hj h1 h2)⟩
theorem Keep.set_ {w w' : World} {b i : Nat} {v : Value} (h : Keep w w' b v) (u : Value) : Keep w (w'.setCell ⟨b, i, none⟩ u) b v := ⟨h.os, h.tape, h.output, by simpa [World.setCell] using h.size, fun j hj h1 h2 => (Below.heap_setCell w' _ u j h1).trans (h.block j hj h1 h2)⟩
theorem has_block {W W' : World} {b : Nat} {cs : List Value} (h : Has W b cs) (e : W'.heap[b]? = W.heap[b]?) : Has W' b cs := by
  have hl : b < W'.heap.size := by
    have := Array.getElem?_eq_getElem h.1
    rw [this] at e
    exact (Array.getElem?_eq_some_iff.1 e).1
  exact ⟨hl, fun i v hi => ⟨(World.cell?_of_block (a := ⟨b, i, none⟩) e).trans (h.2 i v hi).1, (World.frozen?_of_block (a := ⟨b, i, none⟩) e).trans (h.2 i v hi).2⟩⟩
theorem pop_end {base b g n c : Nat} {r : Value} {xs : List (Int × Int)} {w w1 W T : World} (hbw : b < w.heap.size) (hgw : g < w.heap.size) (hhas : Has w1 b [.bool true, .slice (some ⟨g, 0, none⟩) (n + 1) c]) (hrow : Row base w1 (.slice (some ⟨g, 0, none⟩) n c) xs) (hne : (Value.slice (some ⟨g, 0, none⟩) (n + 1) c).ownBlock ≠ some b) (hge : base ≤ b)
    (hK : Keep w w1 b (.slice (some ⟨g, 0, none⟩) (n + 1) c)) (hT : Below w.heap.size (W.setCell ⟨b, 1, none⟩ (.slice (some ⟨g, 0, none⟩) n c)) T) (hW : Below w1.heap.size w1 W) : Pushed base b (.slice (some ⟨g, 0, none⟩) (n + 1) c) xs r w (.returned r) T := by
  have hgb : g ≠ b := by simpa [Value.ownBlock] using hne
  have hs : Has (W.setCell ⟨b, 1, none⟩ (.slice (some ⟨g, 0, none⟩) n c)) b [.bool true, .slice (some ⟨g, 0, none⟩) n c] := by simpa using (hhas.below hW).set_ 1 (.slice (some ⟨g, 0, none⟩) n c) (by simp)
  refine ⟨rfl, _, ⟨has_block hs (hT.block b hbw), (hrow.below hW).grown fun k hk _ => ?_, by simpa [Value.ownBlock] using hgb, hge⟩, ⟨?_, ?_, ?_, ?_, fun k hk h1 h2 => ?_⟩, fun k hk => Or.inl (by simpa [Value.ownBlock] using hk)⟩
  · simp [Value.ownBlock] at hk; subst hk
    exact (hT.block g hgw).trans (Below.heap_setCell W _ _ g hgb)
  · exact hT.os.trans (hW.os.trans hK.os)
  · exact hT.tape.trans (hW.tape.trans hK.tape)
  · exact hT.output.trans (hW.output.trans hK.output)
  · exact Nat.le_trans hK.size (Nat.le_trans hW.size (Nat.le_trans (by simp [World.setCell]) hT.size))
  · exact (hT.block k hk).trans ((Below.heap_setCell W _ _ k h1).trans ((hW.block k (Nat.lt_of_lt_of_le hk hK.size)).trans (hK.block k hk h1 h2)))
theorem Loc.refl (w : World) (v : Value) : Loc w v v := fun _ h => Or.inl h
set_option maxRecDepth 100000 in
theorem pop_some (base b : Nat) (v : Value) (xs : List (Int × Int)) (p : Int × Int) (w : World) (h : At base w b v (xs ++ [p])) (hn : xs.length ≤ 1000) : Calls Try.prog 22 #[.pointer (some ⟨b, 1, none⟩)] w (Pushed base b v xs (.tuple #[.agg #[.int .i64 p.1, .int .i64 p.2], .bool true]) w) := by
  have hlt := h.has.lt
  go_enter Try.func22, Try.ntmps22
  go_wp2_with fail
  refine (top_some base b v xs p _ (h.below (by repeat (first | exact Below.refl _ _ | refine Below.drew ?_ | refine Below.alloc ?_ (by simp <;> omega) _))) hn).mono ?_
  rintro e w1 ⟨rfl, hb⟩
  have hb1 : Below w.heap.size w w1 := Below.trans (by repeat (first | exact Below.refl _ _ | refine Below.drew ?_ | refine Below.alloc ?_ (by simp <;> omega) _)) (hb.mono (by simp <;> omega))
  have hr := (Has.new w [.int .i64 0, .int .i64 0] 32).below hb
  have r0 := hr.here 0 _ rfl
  have r1 := hr.here 1 _ rfl
  have rf0 := (hr.2 0 _ rfl).2
  have rf1 := (hr.2 1 _ rfl).2
  have hrl := hr.lt
  have hbw := hlt
  have hbn : ¬ (w.heap.size = b) := by omega
  have hnb : ¬ (b = w.heap.size) := by omega
  have hgw := fun g' e => (h.row.lt g' e).1
  replace h := h.below hb1
  replace hlt := h.has.lt
  have hK : Keep w w1 b v := Keep.of_below hb1
  obtain ⟨g, c, rfl, hc, hg, k0, k1⟩ := h.row.last
  have c1 := h.has.here 1 _ rfl
  have f1 := (h.has.2 1 _ rfl).2
  have hrow : Row base w1 (.slice (some ⟨g, 0, none⟩) xs.length c) xs := by
    have := h.row
    exact Row.pop this
  have hne := h.ne
  have hge := h.ge
  have hhas := h.has
  clear h k0 k1 hr
  replace hgw := hgw g rfl
  have q : (0 : Int) ≤ (xs.length : Int) := Int.natCast_nonneg _
  have hi : (xs.length : Int) + 1 - 1 = xs.length := by omega
  clear hb1 hb
  go_wp2_with fail
  go_region
  all_goals (go_wp2_with fail)
  all_goals (refine bodyPost_ret (v := .tuple #[.agg #[.int .i64 p.1, .int .i64 p.2], .bool true]) (by simp [results, Try.results22, go_sem, *]) rfl ?_; apply pop_end hbw hgw hhas hrow hne hge hK; (repeat (first | exact Below.refl _ _ | refine Below.drew ?_ | refine Below.setCell ?_ (by exact Nat.le_refl _) _ | refine Below.alloc ?_ (by simp [World.setCell] <;> omega) _)); (repeat (first | exact Below.refl _ _ | refine Below.drew ?_ | refine Below.alloc ?_ (by simp [World.setCell] <;> omega) _)))

set_option maxRecDepth 100000 in
theorem pop_none (base b : Nat) (v : Value) (w : World) (h : At base w b v []) : Calls Try.prog 22 #[.pointer (some ⟨b, 1, none⟩)] w (Ret (.tuple #[.agg #[.int .i64 0, .int .i64 0], .bool false]) w) := by
  have hlt := h.has.lt
  go_enter Try.func22, Try.ntmps22
  go_wp2_with fail
  refine (top_none base b v _ (h.below (by repeat (first | exact Below.refl _ _ | refine Below.drew ?_ | refine Below.alloc ?_ (by simp <;> omega) _)))).mono ?_
  rintro e w1 ⟨rfl, hb⟩
  have hb1 : Below w.heap.size w w1 := Below.trans (by repeat (first | exact Below.refl _ _ | refine Below.drew ?_ | refine Below.alloc ?_ (by simp <;> omega) _)) (hb.mono (by simp <;> omega))
  have hr := (Has.new w [.int .i64 0, .int .i64 0] 32).below hb
  have r0 := hr.here 0 _ rfl
  have r1 := hr.here 1 _ rfl
  have rf0 := (hr.2 0 _ rfl).2
  have rf1 := (hr.2 1 _ rfl).2
  have hrl := hr.lt
  clear hr h
  go_wp2_with fail
  exact bodyPost_ret (v := .tuple #[.agg #[.int .i64 0, .int .i64 0], .bool false]) (by simp [results, Try.results22, go_sem, *]) rfl (Ret.of (by repeat (first | exact hb1 | refine Below.drew ?_ | refine Below.setCell ?_ (by exact Nat.le_refl _) _ | refine Below.alloc ?_ (by simp [World.setCell] <;> omega) _)))
theorem pushed_res {base b R : Nat} {v r r' u u' : Value} {xs : List (Int × Int)} {w w1 w2 : World} {e : Ending} (hbw : b < w.heap.size) (hv : ∀ g, v.ownBlock = some g → g < w.heap.size) (hb1 : Below w.heap.size w w1) (hR : R = w.heap.size) (hR1 : R < w1.heap.size) (hp : Pushed base b v xs r' w1 e w2) :
    Pushed base b v xs r w (.returned r) ((w2.setCell ⟨R, 0, none⟩ u).setCell ⟨R, 1, none⟩ u') := by
  obtain ⟨_, v', ha, hk, hl⟩ := hp
  have hT : ∀ k, k ≠ R → ((w2.setCell ⟨R, 0, none⟩ u).setCell ⟨R, 1, none⟩ u').heap[k]? = w2.heap[k]? := fun k hkR => (Below.heap_setCell _ _ _ k hkR).trans (Below.heap_setCell _ _ _ k hkR)
  refine ⟨rfl, v', ⟨has_block ha.has (hT b (by omega)), ha.row.grown fun g hg hg2 => hT g ?_, ha.ne, ha.ge⟩, ⟨?_, ?_, ?_, ?_, fun k hk1 h1 h2 => ?_⟩, fun g hg => ?_⟩
  · rcases hl g hg with h | h
    · have := hv g h; omega
    · omega
  · exact hk.os.trans hb1.os
  · exact hk.tape.trans hb1.tape
  · exact hk.output.trans hb1.output
  · exact Nat.le_trans hb1.size (Nat.le_trans hk.size (by simp [World.setCell]))
  · exact (hT k (by omega)).trans ((hk.block k (Nat.lt_of_lt_of_le hk1 hb1.size) h1 h2).trans (hb1.block k hk1))
  · rcases hl g hg with h | h
    · exact Or.inl h
    · exact Or.inr (Nat.le_trans hb1.size h)
theorem res_kept {b R : Nat} {v : Value} {cs : List Value} {w1 w2 : World} (h : Has w1 R cs) (hk : Keep w1 w2 b v) (hRb : R ≠ b) (hRv : v.ownBlock ≠ some R) : Has w2 R cs := has_block h (hk.block R h.1 hRb hRv)
set_option maxRecDepth 100000 in
theorem take_none (base b : Nat) (v : Value) (w : World) (h : At base w b v []) : Calls Try.prog 8 #[.pointer (some ⟨b, 0, none⟩)] w (Ret (.tuple #[.agg #[.int .i64 0, .int .i64 0], .bool false]) w) := by
  have hlt := h.has.lt
  go_enter Try.func8, Try.ntmps8
  go_wp2_with fail
  refine (live_yes b v _ (h.has.below (by repeat (first | exact Below.refl _ _ | refine Below.drew ?_ | refine Below.alloc ?_ (by simp <;> omega) _)))).mono ?_
  rintro e w1 ⟨rfl, hb⟩
  have hb1 : Below w.heap.size w w1 := Below.trans (by repeat (first | exact Below.refl _ _ | refine Below.drew ?_ | refine Below.alloc ?_ (by simp <;> omega) _)) (hb.mono (by simp <;> omega))
  have hr := (Has.new w [.int .i64 0, .int .i64 0] 32).below hb
  replace h := h.below hb1
  replace hlt := h.has.lt
  go_wp2_with fail
  refine (pop_none base b v _ h).mono ?_
  rintro e w2 ⟨rfl, hb2⟩
  replace hr := hr.below hb2
  have r0 := hr.here 0 _ rfl
  have r1 := hr.here 1 _ rfl
  have rf0 := (hr.2 0 _ rfl).2
  have rf1 := (hr.2 1 _ rfl).2
  have hrl := hr.lt
  have hb3 := hb1.trans (hb2.mono hb1.size)
  clear hr h
  go_wp2_with fail
  exact bodyPost_ret (v := .tuple #[.agg #[.int .i64 0, .int .i64 0], .bool false]) (by simp [results, Try.results8, go_sem, *]) rfl (Ret.of (by repeat (first | exact hb3 | refine Below.drew ?_ | refine Below.setCell ?_ (by exact Nat.le_refl _) _ | refine Below.alloc ?_ (by simp [World.setCell] <;> omega) _)))
set_option maxRecDepth 100000 in
theorem take_some (base b : Nat) (v : Value) (xs : List (Int × Int)) (p : Int × Int) (w : World) (h : At base w b v (xs ++ [p])) (hn : xs.length ≤ 1000) : Calls Try.prog 8 #[.pointer (some ⟨b, 0, none⟩)] w (Pushed base b v xs (.tuple #[.agg #[.int .i64 p.1, .int .i64 p.2], .bool true]) w) := by
  have hlt := h.has.lt
  have hbw := hlt
  have hv := fun g e => (h.row.lt g e).1
  go_enter Try.func8, Try.ntmps8
  go_wp2_with fail
  refine (live_yes b v _ (h.has.below (by repeat (first | exact Below.refl _ _ | refine Below.drew ?_ | refine Below.alloc ?_ (by simp <;> omega) _)))).mono ?_
  rintro e w1 ⟨rfl, hb⟩
  have hb1 : Below w.heap.size w w1 := Below.trans (by repeat (first | exact Below.refl _ _ | refine Below.drew ?_ | refine Below.alloc ?_ (by simp <;> omega) _)) (hb.mono (by simp <;> omega))
  have hr := (Has.new w [.int .i64 0, .int .i64 0] 32).below hb
  replace h := h.below hb1
  replace hlt := h.has.lt
  go_wp2_with fail
  refine (pop_some base b v xs p _ h hn).mono ?_
  rintro e w2 hp
  obtain rfl := hp.1
  obtain ⟨_, v', ha, hk, hl⟩ := id hp
  have hrl1 := hr.lt
  replace hr := res_kept hr hk (by omega) (fun e => by have := hv _ e; omega)
  have r0 := hr.here 0 _ rfl
  have r1 := hr.here 1 _ rfl
  have rf0 := (hr.2 0 _ rfl).2
  have rf1 := (hr.2 1 _ rfl).2
  have hrl := hr.lt
  clear hr h ha hk hl
  go_wp2_with fail
  exact bodyPost_ret (v := .tuple #[.agg #[.int .i64 p.1, .int .i64 p.2], .bool true]) (by simp [results, Try.results8, go_sem, *]) rfl (pushed_res hbw hv hb1 rfl hrl1 hp)

end Held
end Go.Proofs.Ytdhgmgbpdbknhaa
