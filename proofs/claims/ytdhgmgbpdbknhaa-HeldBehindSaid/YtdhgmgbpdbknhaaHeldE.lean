/- All of package held; the law HeldOwn. -/
import Derived.Test.YtdhgmgbpdbknhaaHeldD
namespace Go.Proofs.Ytdhgmgbpdbknhaa
open Go.ChangeShapes Go.WideShapes Go.ChangeAt Go.RowKit
namespace Held


theorem flat_one' : ∀ (xs : List (Int × Int)), ∀ u ∈ flat xs, u.oneCell' = true
  | [], u, h => by simp [flat] at h
  | p :: l, u, h => by
    simp only [flat, List.mem_cons] at h
    rcases h with rfl | rfl | h
    · rfl
    · rfl
    · exact flat_one' l u h
theorem own_empty (w : World) : (w.alloc (.cells #[] 32)).ownsRow w.heap.size 32 2 (.slice (some ⟨w.heap.size, 0, none⟩) 0 0) 0 [] :=
  ⟨rfl, Or.inr ⟨w.heap.size, 0, #[], rfl, Nat.le_refl _, heap_alloc_new w _, Nat.le_refl _, Nat.zero_le _, rfl, rfl⟩⟩
theorem clone_any (base : Nat) (g n c : Nat) (xs : List (Int × Int)) (w : World) (h : Row base w (.slice (some ⟨g, 0, none⟩) n c) xs) (hn : xs.length ≤ 1000) :
    Calls Try.prog 25 #[.slice (some ⟨g, 0, none⟩) n c] w fun e w' => ∃ v', e = .returned v' ∧ Row w.heap.size w' v' xs ∧ Below w.heap.size w w' := by
  obtain ⟨i0, hi, hz0, hz1, hz2⟩ := info_parts seen_info
  have he : ∀ W : World, (binOp .eql 25 (.slice (some ⟨g, 0, none⟩) n c) (.slice none 0 0)).run Try.prog W = .ok (.bool false) W := fun _ => rfl
  have hcells : ∀ j u, (flat xs)[j]? = some u → w.cell? ((⟨g, 0, none⟩ : Addr).add j) = some u := World.ownsRow.cells (g := g) h rfl
  have hlen : xs.length = n := by
    obtain ⟨A, c', hv, _⟩ := h.shape
    injection hv with _ e _
    exact e.symm
  have hone : ∀ u ∈ flat xs, u.oneCell' = true := flat_one' xs
  have hfl := flat_length xs
  have hH := Lib.hid h
  clear h
  go_enter Try.func25, Try.ntmps25
  go_wp2_with (at_builtin; refine wpList_append_own_at _ rfl (.tmp 5) (.tmp 6) 25 rfl w.heap.size 32 i0 (.agg #[.int .i64 0, .int .i64 0]) 2 16 Try.underlying25 hi hz0 hz1 hz2 rfl (by decide) (.slice (some ⟨w.heap.size, 0, none⟩) 0 0) 0 [] (by rfl) (own_empty w) ⟨g, 0, none⟩ n c (flat xs) (by rfl) (by rw [hfl, hlen]) ?_ hone (by unfold maxLen; omega) (by omega) (by simp) ?_)
  · intro j u hj
    have hg := (hH.out.lt g rfl).1
    exact ((below1 w _).cell (p := (⟨g, 0, none⟩ : Addr).add j) (by unfold Addr.add; split <;> exact hg)).trans (hcells j u hj)
  · intro v' w' hown hgrow hnil hat
    go_wp2_with fail
    go_ret
    refine ⟨_, rfl, ?_, (below1 w _).trans (below_of_grown hgrow (by simp) (Nat.le_refl _))⟩
    unfold Row
    rw [hlen]
    simpa using hown
theorem clone_nil (w : World) : Calls Try.prog 25 #[.slice none 0 0] w (Ret (.slice none 0 0) w) := by
  have he : ∀ W : World, (binOp .eql 25 (.slice none 0 0) (.slice none 0 0)).run Try.prog W = .ok (.bool true) W := fun _ => rfl
  go_enter Try.func25, Try.ntmps25
  go_wp2_with fail
  go_ret
  exact Ret.of (Below.refl _ _)

theorem all_any (base b : Nat) (v : Value) (xs : List (Int × Int)) (w : World) (h : At base w b v xs) (hn : xs.length ≤ 1000) : Calls Try.prog 20 #[.pointer (some ⟨b, 0, none⟩)] w fun e w' => ∃ v', e = .returned v' ∧ Row w.heap.size w' v' xs ∧ Below w.heap.size w w' := by
  go_enter Try.func20, Try.ntmps20
  go_wp2_with fail
  refine (live_yes b v _ (h.has.below (by repeat (first | exact Below.refl _ _ | refine Below.drew ?_ | refine Below.alloc ?_ (by simp <;> omega) _)))).mono ?_
  rintro e w1 ⟨rfl, hb⟩
  have h1 := h.below hb
  have c1 := h1.has.here 1 _ rfl
  rcases h1.row.2 with ⟨hv, hl⟩ | ⟨g, cap, cur, hv, _⟩
  · have hx : xs = [] := List.eq_nil_of_length_eq_zero hl
    subst hv hx
    go_wp2_with fail
    refine (clone_nil _).mono ?_
    rintro e w2 ⟨rfl, hb2⟩
    go_wp2_with fail
    go_ret
    exact ⟨_, rfl, ⟨rfl, Or.inl ⟨rfl, rfl⟩⟩, hb.trans (hb2.mono hb.size)⟩
  · subst hv
    go_wp2_with fail
    refine (clone_any base g _ cap xs _ h1.row hn).mono ?_
    rintro e w2 ⟨v', rfl, hr, hb2⟩
    go_wp2_with fail
    go_ret
    exact ⟨_, rfl, ⟨hr.1, hr.2.imp id fun ⟨g, cap, cur, e, hg, rest⟩ => ⟨g, cap, cur, e, Nat.le_trans hb.size hg, rest⟩⟩, hb.trans (hb2.mono hb.size)⟩

theorem Row.one {base : Nat} {w : World} {v : Value} {x y : Int} (h : Row base w v ([] ++ [(x, y)])) : ∃ g c, v = .slice (some ⟨g, 0, none⟩) 1 c ∧ 1 ≤ c ∧ base ≤ g ∧ Has w g [.int .i64 x, .int .i64 y] ∧ c ≤ maxLen ∧ g < w.heap.size := by
  have h2 := h.at_ 0 (x, y) rfl
  rcases h.2 with ⟨_, hn⟩ | ⟨g, cap, cur, rfl, hbg, hg, hn, hc, hsz, htk⟩
  · simp at hn
  · obtain ⟨g', c', e, _, hlt, k0, k1⟩ := h2
    injection e with e1 e2 e3
    injection e1 with e1
    injection e1 with e1
    subst e1 e3
    have hfr : ∀ i, w.frozen? ⟨g, i, none⟩ = false := fun i => by simp only [World.frozen?, hg]; simp
    refine ⟨g, cap, rfl, hn, hbg, ⟨hlt, fun i v hi => ?_⟩, hc, hlt⟩
    rcases i with _ | _ | i
    · simp at hi; subst hi; exact ⟨by simpa using k0, hfr 0⟩
    · simp at hi; subst hi; exact ⟨by simpa using k1, hfr 1⟩
    · simp at hi
theorem At.far {base b : Nat} {W : World} {v : Value} {xs : List (Int × Int)} (h : At base W b v xs) {p : Addr} (hb : p.block ≠ b) (hv : v.ownBlock ≠ some p.block) (u : Value) : At base (W.setCell p u) b v xs :=
  ⟨h.has.far hb u, h.row.grown fun k hk _ => Below.heap_setCell W p u k (fun e => hv (by rw [hk, e])), h.ne, h.ge⟩
def Own3 (w : World) (b : Nat) (v : Value) (g : Nat) (i : Value) (W : World) : Prop := ∃ j : Nat, j ≤ 1 ∧ i = .int .i64 j ∧ At b W b v ([] ++ [(1, 2)]) ∧ (∃ u0 u1, Has W g [u0, u1]) ∧ Below w.heap.size w W
def OwnRel (w : World) (O Z LB : Nat) (d k z : Int) (i : Value) (W : World) : Prop := ∃ j : Nat, j ≤ 2 ∧ i = .int .i64 j ∧ w.heap.size ≤ O ∧ w.heap.size ≤ Z ∧ Has W O [.int .u8 d, .int .i64 k, .int .i64 z] ∧ Has W Z [.bool false, .slice none 0 0] ∧ Has W LB [.pointer none, .pointer (some ⟨Z, 0, none⟩)] ∧ Below w.heap.size w W

set_option maxRecDepth 100000 in
set_option maxHeartbeats 2000000 in
theorem own_walk (d k z : Int) (w : World) : Calls Try.prog 5 #[.agg #[.int .u8 d, .int .i64 k, .int .i64 z]] w (Ret (.bool true) w) := by
  go_enter Try.func5, Try.ntmps5
  go_wp2_with fail
  have hR : OwnRel w w.heap.size (w.heap.size + 1) (w.heap.size + 1 + 1) d k z (.int .i64 0) (((w.alloc (.cells #[.int .u8 d, .int .i64 k, .int .i64 z] 30)).alloc (.cells #[.bool false, .slice none 0 0] 56)).alloc (.cells #[.pointer none, .pointer (some ⟨w.heap.size + 1, 0, none⟩)] 23)) :=
    ⟨0, by omega, rfl, Nat.le_refl _, by omega, ((Has.new _ _ _).alloc _).alloc _, (by simpa using (Has.new (w.alloc (.cells #[.int .u8 d, .int .i64 k, .int .i64 z] 30)) [.bool false, .slice none 0 0] 56).alloc _), (by simpa using Has.new ((w.alloc (.cells #[.int .u8 d, .int .i64 k, .int .i64 z] 30)).alloc (.cells #[.bool false, .slice none 0 0] 56)) [.pointer none, .pointer (some ⟨w.heap.size + 1, 0, none⟩)] 23), below3 _ _ _ _⟩
  revert hR
  generalize w.heap.size + 1 + 1 = LB
  generalize w.heap.size + 1 = Z
  generalize ((w.alloc (.cells #[.int .u8 d, .int .i64 k, .int .i64 z] 30)).alloc (.cells #[.bool false, .slice none 0 0] 56)).alloc (.cells #[.pointer none, .pointer (some ⟨Z, 0, none⟩)] 23) = W0
  generalize hO : w.heap.size = O
  have HO := Lib.hid hO
  clear hO
  intro hR
  go_loopw [5] (fun i W => OwnRel w O Z LB d k z i W) (fun i _ => 2 - (intOf i).toNat)
  case atStart => exact hR
  case round =>
    clear hR
    obtain ⟨j, hj, rfl, hwO, hwZ, hO, hZ, hL, hB⟩ := hrel
    rcases (by omega : j = 0 ∨ j = 1 ∨ j = 2) with rfl | rfl | rfl
    · skip
      refine wp_re (fun W => Has W O [.int .u8 d, .int .i64 k, .int .i64 z] ∧ Has W Z [.bool false, .slice none 0 0] ∧ Has W LB [.pointer none, .pointer (some ⟨Z, 0, none⟩)] ∧ Below w.heap.size w W) ⟨(by repeat (first | exact hO | refine Has.alloc ?_ _)), (by repeat (first | exact hZ | refine Has.alloc ?_ _)), (by repeat (first | exact hL | refine Has.alloc ?_ _)), hB⟩ ?_
      clear hO hZ hL hB
      rintro W1 ⟨hO, hZ, hL, hB⟩ x1
      have hO0 := hO.at_ 0 _ rfl
      have hO1 := hO.at_ 1 _ rfl
      have hO2 := hO.at_ 2 _ rfl
      have hOl := hO.lts
      have hZ0 := hZ.at_ 0 _ rfl
      have hZ1 := hZ.at_ 1 _ rfl
      have hZl := hZ.lts
      have hL0 := hL.at_ 0 _ rfl
      have hL1 := hL.at_ 1 _ rfl
      have hLl := hL.lts
      go_wp2_with fail
      refine (clear_nil _).mono ?_
      rintro e w' h
      obtain ⟨rfl, y1, rfl⟩ := h.next (x := x1)
      go_wp2_with fail
      refine (has_nil k _).mono ?_
      rintro e w' h
      obtain ⟨rfl, y2, rfl⟩ := h.next (x := y1)
      go_wp2_with fail
      refine (last_nil _).mono ?_
      rintro e w' h
      obtain ⟨rfl, y3, rfl⟩ := h.next (x := y2)
      go_wp2_with fail
      refine calls_re (fun W => Has W O [.int .u8 d, .int .i64 k, .int .i64 z] ∧ Has W Z [.bool false, .slice none 0 0] ∧ Has W LB [.pointer none, .pointer (some ⟨Z, 0, none⟩)] ∧ Has W y3.w.heap.size [.int .i64 0, .int .i64 0] ∧ Below w.heap.size w W) ⟨(by repeat (first | exact hO.ext y3 | refine Has.alloc ?_ _)), (by repeat (first | exact hZ.ext y3 | refine Has.alloc ?_ _)), (by repeat (first | exact hL.ext y3 | refine Has.alloc ?_ _)), (by repeat (first | exact Has.new _ _ _ | refine Has.alloc ?_ _)), (by repeat (first | exact y3.out hB | refine Below.alloc ?_ (by first | exact hB.size | exact (y3.out hB).size) _))⟩ ?_
      clear hO hZ hL hB hO0 hO1 hO2 hOl hZ0 hZ1 hZl hL0 hL1 hLl
      rintro W2 ⟨hO, hZ, hL, hX, hB⟩ x2
      have hO0 := hO.at_ 0 _ rfl
      have hO1 := hO.at_ 1 _ rfl
      have hO2 := hO.at_ 2 _ rfl
      have hOl := hO.lts
      have hZ0 := hZ.at_ 0 _ rfl
      have hZ1 := hZ.at_ 1 _ rfl
      have hZl := hZ.lts
      have hL0 := hL.at_ 0 _ rfl
      have hL1 := hL.at_ 1 _ rfl
      have hLl := hL.lts
      have hX0 := hX.at_ 0 _ rfl
      have hX1 := hX.at_ 1 _ rfl
      have hXl := hX.lts
      refine (take_nil _).mono ?_
      rintro e w' h
      obtain ⟨rfl, y4, rfl⟩ := h.next (x := x2)
      go_wp2_with fail
      refine calls_re (fun W => Has W O [.int .u8 d, .int .i64 k, .int .i64 z] ∧ Has W Z [.bool false, .slice none 0 0] ∧ Has W LB [.pointer none, .pointer (some ⟨Z, 0, none⟩)] ∧ Has W y3.w.heap.size [.int .i64 0, .int .i64 0] ∧ Has W y4.w.heap.size [.int .i64 0, .int .i64 0] ∧ Below w.heap.size w W) ⟨(by repeat (first | exact hO.ext y4 | refine Has.alloc ?_ _)), (by repeat (first | exact hZ.ext y4 | refine Has.alloc ?_ _)), (by repeat (first | exact hL.ext y4 | refine Has.alloc ?_ _)), (by repeat (first | exact hX.ext y4 | refine Has.alloc ?_ _)), (by repeat (first | exact Has.new _ _ _ | refine Has.alloc ?_ _)), (by repeat (first | exact y4.out hB | refine Below.alloc ?_ (by first | exact hB.size | exact (y4.out hB).size) _))⟩ ?_
      clear hO hZ hL hX hB hO0 hO1 hO2 hOl hZ0 hZ1 hZl hL0 hL1 hLl hX0 hX1 hXl
      rintro W3 ⟨hO, hZ, hL, hX, hY, hB⟩ x3
      have hO0 := hO.at_ 0 _ rfl
      have hO1 := hO.at_ 1 _ rfl
      have hO2 := hO.at_ 2 _ rfl
      have hOl := hO.lts
      have hZ0 := hZ.at_ 0 _ rfl
      have hZ1 := hZ.at_ 1 _ rfl
      have hZl := hZ.lts
      have hL0 := hL.at_ 0 _ rfl
      have hL1 := hL.at_ 1 _ rfl
      have hLl := hL.lts
      have hX0 := hX.at_ 0 _ rfl
      have hX1 := hX.at_ 1 _ rfl
      have hXl := hX.lts
      have hY0 := hY.at_ 0 _ rfl
      have hY1 := hY.at_ 1 _ rfl
      have hYl := hY.lts
      refine (add_nil k z _).mono ?_
      rintro e w' h
      obtain ⟨rfl, y5, rfl⟩ := h.next (x := x3)
      go_wp2_with fail
      refine (all_nil _).mono ?_
      rintro e w' h
      obtain ⟨rfl, y6, rfl⟩ := h.next (x := y5)
      go_wp2_with fail
      refine (len_nil _).mono ?_
      rintro e w' h
      obtain ⟨rfl, y7, rfl⟩ := h.next (x := y6)
      go_wp2_with fail
      refine (fork_nil _).mono ?_
      rintro e w' h
      obtain ⟨rfl, y8, rfl⟩ := h.next (x := y7)
      go_wp2_with fail
      clear hO0 hO1 hO2 hOl hZ0 hZ1 hZl hL0 hL1 hLl hX0 hX1 hXl hY0 hY1 hYl
      go_roundw
      case rel => exact ⟨1, by omega, rfl, hwO, hwZ, hO.ext y8, hZ.ext y8, hL.ext y8, y8.out hB⟩
      case measure => simp [intOf]
    · skip
      refine wp_re (fun W => Has W O [.int .u8 d, .int .i64 k, .int .i64 z] ∧ Has W Z [.bool false, .slice none 0 0] ∧ Has W LB [.pointer none, .pointer (some ⟨Z, 0, none⟩)] ∧ Below w.heap.size w W) ⟨(by repeat (first | exact hO | refine Has.alloc ?_ _)), (by repeat (first | exact hZ | refine Has.alloc ?_ _)), (by repeat (first | exact hL | refine Has.alloc ?_ _)), hB⟩ ?_
      clear hO hZ hL hB
      rintro W1 ⟨hO, hZ, hL, hB⟩ x1
      have hO0 := hO.at_ 0 _ rfl
      have hO1 := hO.at_ 1 _ rfl
      have hO2 := hO.at_ 2 _ rfl
      have hOl := hO.lts
      have hZ0 := hZ.at_ 0 _ rfl
      have hZ1 := hZ.at_ 1 _ rfl
      have hZl := hZ.lts
      have hL0 := hL.at_ 0 _ rfl
      have hL1 := hL.at_ 1 _ rfl
      have hLl := hL.lts
      go_wp2_with fail
      refine (clear_no Z _ _ (hZ.ext x1)).mono ?_
      rintro e w' h
      obtain ⟨rfl, y1, rfl⟩ := h.next (x := x1)
      go_wp2_with fail
      refine (has_no k Z _ _ (hZ.ext y1)).mono ?_
      rintro e w' h
      obtain ⟨rfl, y2, rfl⟩ := h.next (x := y1)
      go_wp2_with fail
      refine (last_no Z _ _ (hZ.ext y2)).mono ?_
      rintro e w' h
      obtain ⟨rfl, y3, rfl⟩ := h.next (x := y2)
      go_wp2_with fail
      refine calls_re (fun W => Has W O [.int .u8 d, .int .i64 k, .int .i64 z] ∧ Has W Z [.bool false, .slice none 0 0] ∧ Has W LB [.pointer none, .pointer (some ⟨Z, 0, none⟩)] ∧ Has W y3.w.heap.size [.int .i64 0, .int .i64 0] ∧ Below w.heap.size w W) ⟨(by repeat (first | exact hO.ext y3 | refine Has.alloc ?_ _)), (by repeat (first | exact hZ.ext y3 | refine Has.alloc ?_ _)), (by repeat (first | exact hL.ext y3 | refine Has.alloc ?_ _)), (by repeat (first | exact Has.new _ _ _ | refine Has.alloc ?_ _)), (by repeat (first | exact y3.out hB | refine Below.alloc ?_ (by first | exact hB.size | exact (y3.out hB).size) _))⟩ ?_
      clear hO hZ hL hB hO0 hO1 hO2 hOl hZ0 hZ1 hZl hL0 hL1 hLl
      rintro W2 ⟨hO, hZ, hL, hX, hB⟩ x2
      have hO0 := hO.at_ 0 _ rfl
      have hO1 := hO.at_ 1 _ rfl
      have hO2 := hO.at_ 2 _ rfl
      have hOl := hO.lts
      have hZ0 := hZ.at_ 0 _ rfl
      have hZ1 := hZ.at_ 1 _ rfl
      have hZl := hZ.lts
      have hL0 := hL.at_ 0 _ rfl
      have hL1 := hL.at_ 1 _ rfl
      have hLl := hL.lts
      have hX0 := hX.at_ 0 _ rfl
      have hX1 := hX.at_ 1 _ rfl
      have hXl := hX.lts
      refine (take_no Z _ _ (hZ.ext x2)).mono ?_
      rintro e w' h
      obtain ⟨rfl, y4, rfl⟩ := h.next (x := x2)
      go_wp2_with fail
      refine calls_re (fun W => Has W O [.int .u8 d, .int .i64 k, .int .i64 z] ∧ Has W Z [.bool false, .slice none 0 0] ∧ Has W LB [.pointer none, .pointer (some ⟨Z, 0, none⟩)] ∧ Has W y3.w.heap.size [.int .i64 0, .int .i64 0] ∧ Has W y4.w.heap.size [.int .i64 0, .int .i64 0] ∧ Below w.heap.size w W) ⟨(by repeat (first | exact hO.ext y4 | refine Has.alloc ?_ _)), (by repeat (first | exact hZ.ext y4 | refine Has.alloc ?_ _)), (by repeat (first | exact hL.ext y4 | refine Has.alloc ?_ _)), (by repeat (first | exact hX.ext y4 | refine Has.alloc ?_ _)), (by repeat (first | exact Has.new _ _ _ | refine Has.alloc ?_ _)), (by repeat (first | exact y4.out hB | refine Below.alloc ?_ (by first | exact hB.size | exact (y4.out hB).size) _))⟩ ?_
      clear hO hZ hL hX hB hO0 hO1 hO2 hOl hZ0 hZ1 hZl hL0 hL1 hLl hX0 hX1 hXl
      rintro W3 ⟨hO, hZ, hL, hX, hY, hB⟩ x3
      have hO0 := hO.at_ 0 _ rfl
      have hO1 := hO.at_ 1 _ rfl
      have hO2 := hO.at_ 2 _ rfl
      have hOl := hO.lts
      have hZ0 := hZ.at_ 0 _ rfl
      have hZ1 := hZ.at_ 1 _ rfl
      have hZl := hZ.lts
      have hL0 := hL.at_ 0 _ rfl
      have hL1 := hL.at_ 1 _ rfl
      have hLl := hL.lts
      have hX0 := hX.at_ 0 _ rfl
      have hX1 := hX.at_ 1 _ rfl
      have hXl := hX.lts
      have hY0 := hY.at_ 0 _ rfl
      have hY1 := hY.at_ 1 _ rfl
      have hYl := hY.lts
      refine (add_no k z Z _ _ (hZ.ext x3)).mono ?_
      rintro e w' h
      obtain ⟨rfl, y5, rfl⟩ := h.next (x := x3)
      go_wp2_with fail
      refine (all_no Z _ _ (hZ.ext y5)).mono ?_
      rintro e w' h
      obtain ⟨rfl, y6, rfl⟩ := h.next (x := y5)
      go_wp2_with fail
      refine (len_no Z _ _ (hZ.ext y6)).mono ?_
      rintro e w' h
      obtain ⟨rfl, y7, rfl⟩ := h.next (x := y6)
      go_wp2_with fail
      refine (fork_no Z _ _ (hZ.ext y7)).mono ?_
      rintro e w' h
      obtain ⟨rfl, y8, rfl⟩ := h.next (x := y7)
      go_wp2_with fail
      clear hO0 hO1 hO2 hOl hZ0 hZ1 hZl hL0 hL1 hLl hX0 hX1 hXl hY0 hY1 hYl
      go_roundw
      case rel => exact ⟨2, by omega, rfl, hwO, hwZ, hO.ext y8, hZ.ext y8, hL.ext y8, y8.out hB⟩
      case measure => simp [intOf]
    · go_wp2_with fail
      clear hO hZ hL hj
      have hsz := hB.size
      refine (new_any _).mono ?_
      rintro e w1 ⟨rfl, hA, hB1⟩
      replace hB := hB.trans (hB1.mono hsz)
      have hbw := hB1.size
      generalize wr.heap.size = b at hA hB1 hbw hsz ⊢
      have hlt := hA.has.lt
      go_wp2_with fail
      refine (add_yes b b _ [] 1 2 _ hbw hA (by simp) (by omega) (by omega) (by omega) (by omega) (by simp)).mono ?_
      rintro e w2 hp
      obtain ⟨rfl, v2, hA2, hB2, hw2⟩ := hp.on (Below.refl _ _) hbw hA
      replace hB := hB.trans (hB2.mono hsz)
      clear hp hA hlt hB2 hB1
      have hlt := hA2.has.lt
      go_wp2_with fail
      have hv2 : ∀ g', v2.ownBlock = some g' → g' < w2.heap.size := fun g' e => (hA2.row.lt g' e).1
      refine (all_any b b v2 _ _ hA2 (by simp)).mono ?_
      rintro e w3 ⟨a, rfl, ha, hB3⟩
      replace hA2 := hA2.below hB3
      replace hB := hB.trans (hB3.mono (Nat.le_trans hsz hw2))
      replace hw2 := Nat.le_trans hw2 hB3.size
      obtain ⟨g, c, rfl, hg1, hg2, hg3, hg4, hg5⟩ := ha.one
      clear ha hB3
      have hgb : g ≠ b := by omega
      have hgv : v2.ownBlock ≠ some g := fun e => by have := hv2 g e; omega
      have hgw : w.heap.size ≤ g := by omega
      have hR3 : Own3 w b v2 g (.int .i64 0) w3 := ⟨0, by omega, rfl, hA2, ⟨_, _, hg3⟩, hB⟩
      clear hA2 hB hv2 hlt hw2
      go_wp2_with fail
      go_loopw [15] (fun i W => Own3 w b v2 g i W) (fun i _ => 1 - (intOf i).toNat)
      case atStart => exact hR3
      case round =>
        clear hR3 hg3
        obtain ⟨j, hj, rfl, hA, ⟨u0, u1, hg⟩, hB⟩ := hrel
        rcases (by omega : j = 0 ∨ j = 1) with rfl | rfl
        · have g0 := hg.here 0 _ rfl
          have g1 := hg.here 1 _ rfl
          have gf0 := (hg.2 0 _ rfl).2
          have gf1 := (hg.2 1 _ rfl).2
          have gl := hg.lt
          go_wp2_with fail
          go_roundw
          case rel => exact ⟨1, by omega, rfl, (hA.far hgb hgv _).far hgb hgv _, ⟨_, _, by simpa using (hg.set_ 0 (.int .i64 0) (by simp)).set_ 1 (.int .i64 0) (by simp)⟩, outS (outS hB (p := ⟨g, 0, none⟩) hgw _) (p := ⟨g, 1, none⟩) hgw _⟩
          case measure => simp [intOf]
        · go_wp2_with fail
          refine (has_any b b v2 _ 1 _ hA (by simp)).mono ?_
          rintro e w4 ⟨r, f, rfl, hs, hb⟩
          obtain ⟨rfl, rfl⟩ : f = true ∧ r = 2 := by
            rcases hs with ⟨hf, i, p, hp, he, hr⟩ | ⟨_, _, hno⟩
            · rcases i with _ | i
              · simp at hp; subst hp; exact ⟨hf, hr⟩
              · simp at hp
            · exact absurd rfl (hno 0 (1, 2) rfl)
          replace hB := hB.trans (hb.mono hB.size)
          clear hs hA hg hb
          go_wp2_with fail
          refine (awake_any _).mono ?_
          rintro e w5 ⟨rfl, hb⟩
          replace hB := hB.trans (hb.mono hB.size)
          go_wp2_with fail
          go_ret
          exact Ret.of hB

end Held
end Go.Proofs.Ytdhgmgbpdbknhaa
