/- ClockRuns: any calls of any clock are the document's. -/
import Derived.Test.YtgpholoonjglfaaClkB
import Derived.Test.YtgpholoonjglfaaSlices
namespace Go.Proofs.Ytgpholoonjglfaa
open Go.ChangeShapes Go.WideShapes Go.ChangeAt Go.RowKit
namespace Clk


theorem rnew_yes (l : Int) (h1 : 1 ≤ l) (h2 : l ≤ 1099511627776) (w : World) : Calls Try.prog 8 #[.int .i64 l] w (Ret (.tuple #[.agg #[.int .i64 l, .int .i64 0, .int .i64 0], .int .i64 0]) w) := by
  go_enter Try.func8, Try.ntmps8
  go_wp2_with fail
  exact bodyPost_ret (v := .tuple #[.agg #[.int .i64 l, .int .i64 0, .int .i64 0], .int .i64 0]) (by simp [results, Try.results8, go_sem, *]) rfl (Ret.alloc _)
theorem rnew_low (l : Int) (h1 : l < 1) (w : World) : Calls Try.prog 8 #[.int .i64 l] w (Ret (.tuple #[.agg #[.int .i64 0, .int .i64 0, .int .i64 0], .int .i64 1]) w) := by
  go_enter Try.func8, Try.ntmps8
  go_wp2_with fail
  exact bodyPost_ret (v := .tuple #[.agg #[.int .i64 0, .int .i64 0, .int .i64 0], .int .i64 1]) (by simp [results, Try.results8, go_sem, *]) rfl (Ret.alloc _)
theorem rnew_high (l : Int) (h1 : 1099511627776 < l) (w : World) : Calls Try.prog 8 #[.int .i64 l] w (Ret (.tuple #[.agg #[.int .i64 0, .int .i64 0, .int .i64 0], .int .i64 1]) w) := by
  have h2 : ¬ l < 1 := by omega
  go_enter Try.func8, Try.ntmps8
  go_wp2_with fail
  exact bodyPost_ret (v := .tuple #[.agg #[.int .i64 0, .int .i64 0, .int .i64 0], .int .i64 1]) (by simp [results, Try.results8, go_sem, *]) rfl (Ret.alloc _)

theorem rnext_any (l a s : Int) (h0 : 0 ≤ a) (h1 : a ≤ 1000) (w : World) : Calls Try.prog 11 #[.agg #[.int .i64 l, .int .i64 a, .int .i64 s]] w (Ret (.tuple #[.agg #[.int .i64 l, .int .i64 (a + 1), .int .i64 s], .int .i64 (a + 1)]) w) := by
  go_enter Try.func11, Try.ntmps11
  go_wp2_with fail
  go_region
  all_goals (go_wp2_with fail; exact bodyPost_ret (v := .tuple #[.agg #[.int .i64 l, .int .i64 (a + 1), .int .i64 s], .int .i64 (a + 1)]) (by simp [results, Try.results11, go_sem]) rfl (Ret.of (by repeat (first | exact Below.refl _ _ | refine Below.drew ?_ | refine Below.alloc ?_ (by simp) _))))

theorem rstamp_any (l a s : Int) (h0 : 0 ≤ s) (h1 : s ≤ 1000) (w : World) : Calls Try.prog 13 #[.agg #[.int .i64 l, .int .i64 a, .int .i64 s]] w (Ret (.tuple #[.agg #[.int .i64 l, .int .i64 a, .int .i64 (s + 1)], .int .i64 (s + 1)]) w) := by
  go_enter Try.func13, Try.ntmps13
  go_wp2_with fail
  go_region
  all_goals (go_wp2_with fail; exact bodyPost_ret (v := .tuple #[.agg #[.int .i64 l, .int .i64 a, .int .i64 (s + 1)], .int .i64 (s + 1)]) (by simp [results, Try.results13, go_sem]) rfl (Ret.of (by repeat (first | exact Below.refl _ _ | refine Below.drew ?_ | refine Below.alloc ?_ (by simp) _))))

theorem rfull_any (l a s : Int) (e : Bool) (he : decide (l ≤ a) = e) (w : World) : Calls Try.prog 18 #[.agg #[.int .i64 l, .int .i64 a, .int .i64 s]] w (Ret (.bool e) w) := by
  subst he
  go_enter Try.func18, Try.ntmps18
  go_wp2_with fail
  go_ret
  exact Ret.of (below1 _ _)

theorem rleft_full (l a s : Int) (h : l ≤ a) (w : World) : Calls Try.prog 20 #[.agg #[.int .i64 l, .int .i64 a, .int .i64 s]] w (Ret (.int .i64 0) w) := by
  go_enter Try.func20, Try.ntmps20
  go_wp2_with fail
  refine wp_back fun x => ?_
  have c0 := x.all w.heap.size 0 (.int .i64 l) (by simp) (by simp [go_sem])
  have c1 := x.all w.heap.size 1 (.int .i64 a) (by simp) (by simp [go_sem])
  refine ((rfull_any l a s true (by simp; omega) _).mono ?_)
  rintro e w' h
  obtain ⟨rfl, y, rfl⟩ := h.next (x := x)
  go_wp2_with fail
  go_ret
  exact Ret.end (below1 _ _)

theorem rleft_not (l a s : Int) (h : a < l) (h0 : 0 ≤ a) (h1 : l ≤ 1099511627776) (w : World) : Calls Try.prog 20 #[.agg #[.int .i64 l, .int .i64 a, .int .i64 s]] w (Ret (.int .i64 (l - a)) w) := by
  go_enter Try.func20, Try.ntmps20
  go_wp2_with fail
  refine wp_back fun x => ?_
  have c0 := x.all w.heap.size 0 (.int .i64 l) (by simp) (by simp [go_sem])
  have c1 := x.all w.heap.size 1 (.int .i64 a) (by simp) (by simp [go_sem])
  refine ((rfull_any l a s false (by simp; omega) _).mono ?_)
  rintro e w' h
  obtain ⟨rfl, y, rfl⟩ := h.next (x := x)
  go_wp2_with fail
  go_ret
  exact Ret.end (below1 _ _)

def RunsRel (w : World) (br m : Nat) (l : Int) (c i : Value) (W : World) : Prop := ∃ (k b : Nat) (a s : Int), k ≤ m ∧ k ≤ 100 ∧ i = .int .i64 k ∧ c = .pointer (some ⟨b, 0, none⟩) ∧ 0 ≤ a ∧ 0 ≤ s ∧ a ≤ k ∧ s ≤ k ∧
  (w.heap.size ≤ b ∧ b ≠ br ∧ w.heap.size ≤ br) ∧ Has W b [.int .i64 l, .int .i64 a, .int .i64 s] ∧ Has W br [.int .i64 l, .int .i64 a, .int .i64 s] ∧ Below w.heap.size w W
set_option maxRecDepth 100000 in
set_option maxHeartbeats 8000000 in
theorem runs_walk (l : Int) (h1 : 1 ≤ l) (h2 : l ≤ 1099511627776) (A : Option Addr) (m c : Nat) (z : Nat → Int) (w : World) (hm : m ≤ 9223372036854775807) (hz : 0 < m → ∃ b o, A = some ⟨b, o, none⟩ ∧ b < w.heap.size ∧ ∀ i, i < m → w.cell? ⟨b, o + i, none⟩ = some (.int .u8 (z i)) ∧ 0 ≤ z i ∧ z i ≤ 255) :
    Calls Try.prog 3 #[.int .i64 l, .slice A m c] w (Ret (.bool true) w) := by
  go_enter Try.func3, Try.ntmps3
  go_wp2_with fail
  refine (new_yes l (by omega) (by omega) _).mono ?_
  rintro e w' ⟨b, rfl, hge, hB, hc⟩
  go_wp2_with fail
  refine (rnew_yes l h1 h2 _).mono ?_
  rintro e w1 ⟨rfl, hb⟩
  replace hc := hc.below hb
  replace hB := hB.trans (hb.mono hB.size)
  clear hb
  go_wp2_with fail
  refine calls_re (fun W => Has W b [.int .i64 l, .int .i64 0, .int .i64 0] ∧ Has W w1.heap.size [.int .i64 l, .int .i64 0, .int .i64 0] ∧ Below w.heap.size w W) ⟨hc.alloc _, Has.new _ _ _, outA hB _⟩ ?_
  have hne0 : b ≠ w1.heap.size := by have := hc.lt; omega
  have hgr0 := hB.size
  clear hc hB
  rintro W ⟨hc, hr, hB⟩ x
  refine (awake_any _).mono ?_
  rintro e w' ⟨rfl, hb⟩
  have hR : RunsRel w w1.heap.size m l (.pointer (some ⟨b, 0, none⟩)) (.int .i64 0) w' := ⟨0, b, 0, 0, by omega, by omega, rfl, rfl, by omega, by omega, by omega, by omega, ⟨hge, hne0, hgr0⟩, (hc.ext x).below hb, (hr.ext x).below hb, (x.out hB).trans (hb.mono (Nat.le_trans hB.size x.size))⟩
  clear hc hr hB hb hge hne0 hgr0
  go_wp2_with fail
  generalize w1.heap.size = br at *
  go_loopw [5, 9] (fun c i wr => RunsRel w br m l c i wr) (fun _ i _ => (100 - intOf i).toNat)
  case atStart => exact hR
  case round =>
    clear hR
    obtain ⟨k, b, a, s, hk, hk', rfl, rfl, ha, hs, hak, hsk, ⟨hge, hne, hgr⟩, hc, hr, hB⟩ := hrel
    have q : (0 : Int) ≤ (k : Int) := Int.natCast_nonneg _
    by_cases hlt : k < m
    · have hd : decide ((k : Int) < (m : Int)) = true := by simp; omega
      by_cases hlt2 : k < 100
      · have hd2 : decide ((k : Int) < 100) = true := by simp; omega
        obtain ⟨b0, o0, rfl, hb0, hcell⟩ := hz (by omega)
        obtain ⟨hck, hu0, hu1⟩ := hcell k hlt
        generalize z k = u at *
        clear hcell
        replace hck := (hB.cell (p := ⟨b0, o0 + k, none⟩) hb0).trans hck
        have q1 : (k : Int) < (m : Int) := by omega
        have hcl := hc.lt
        have hrl := hr.lt
        have hsz := hB.size
        clear hd hd2
        rcases (by omega : u % 6 = 0 ∨ u % 6 = 1 ∨ u % 6 = 2 ∨ u % 6 = 3 ∨ u % 6 = 4 ∨ u % 6 = 5) with hv | hv | hv | hv | hv | hv
        · have hv : u % 6 = 0 := hv
          by_cases hf : l ≤ a + 1
          · skip
            go_wp2_with fail
            refine (next_c b l a (a + 1) s _ hc (by omega) rfl (by omega) (by omega)).mono ?_
            rintro e w' ⟨rfl, hg, hn⟩
            replace hr := hr.grown hg hne.symm
            replace hc := hn
            replace hB := hB.trans (below_of_grown hg hB.size hge)
            clear hg hn
            have r0 := hr.here 0 _ rfl
            have r1 := hr.here 1 _ rfl
            have r2 := hr.here 2 _ rfl
            have rf0 := (hr.2 0 _ rfl).2
            have rf1 := (hr.2 1 _ rfl).2
            have rf2 := (hr.2 2 _ rfl).2
            go_wp2_with fail
            clear r0 r1 r2 rf0 rf1 rf2
            refine (rnext_any l a s (by omega) (by omega) _).mono ?_
            rintro e w' ⟨rfl, hb⟩
            replace hc := hc.below hb
            replace hr := hr.below hb
            replace hB := hB.trans (hb.mono hB.size)
            clear hb
            have r0 := hr.here 0 _ rfl
            have r1 := hr.here 1 _ rfl
            have r2 := hr.here 2 _ rfl
            have rf0 := (hr.2 0 _ rfl).2
            have rf1 := (hr.2 1 _ rfl).2
            have rf2 := (hr.2 2 _ rfl).2
            go_wp2_with fail
            clear r0 r1 r2 rf0 rf1 rf2
            refine wp_re (fun W => Has W b [.int .i64 l, .int .i64 (a + 1), .int .i64 s] ∧ Has W br [.int .i64 l, .int .i64 (a + 1), .int .i64 s] ∧ Below w.heap.size w W) ⟨(((hc.far (p := ⟨br, 0, none⟩) hne.symm (.int .i64 (l))).far (p := ⟨br, 1, none⟩) hne.symm (.int .i64 (a + 1))).far (p := ⟨br, 2, none⟩) hne.symm (.int .i64 (s))), (((hr.set_ 0 (.int .i64 (l)) (by simp)).set_ 1 (.int .i64 (a + 1)) (by simp)).set_ 2 (.int .i64 (s)) (by simp)), (outS (outS (outS hB (p := ⟨br, 0, none⟩) hgr (.int .i64 (l))) (p := ⟨br, 1, none⟩) hgr (.int .i64 (a + 1))) (p := ⟨br, 2, none⟩) hgr (.int .i64 (s)))⟩ ?_
            clear hc hr hB
            rintro W2 ⟨hc, hr, hB⟩ x
            have r0 := hr.at_ 0 _ rfl
            have r1 := hr.at_ 1 _ rfl
            have r2 := hr.at_ 2 _ rfl
            refine region_cl (x := x) (by kernel_rfl) (by kernel_rfl) ?_
            repeat (go_big_quiet_step (first | (go_at_call 15; exact calls_cl (now_yes _ l (a + 1) (s) _ (hc.ext _) (by omega))) | (go_at_call 16; exact calls_cl (last_yes _ l (a + 1) (s) _ (hc.ext _) (by omega))) | (go_at_call 17; exact calls_cl (full_yes _ l (a + 1) (s) _ (hc.ext _) (by omega) (by omega) (by omega) (by omega) (by omega))) | (go_at_call 18; exact calls_cl (rfull_any l (a + 1) (s) true (by simp; omega) _)) | (go_at_call 19; exact calls_cl (left_full _ l (a + 1) (s) _ (hc.ext _) (by omega) (by omega) (by omega) (by omega) (by omega))) | (go_at_call 20; exact calls_cl (rleft_full l (a + 1) (s) (by omega) _))))
            refine wpQuiet_nil ?_
            rintro w' ⟨y, rfl⟩
            clear r0 r1 r2
            go_wp2_with fail
            go_roundw
            case rel => first | exact ⟨k + 1, _, a + 1, s, by omega, by omega, by go_num, rfl, by omega, by omega, by omega, by omega, ⟨hge, hne, hgr⟩, hc.ext y, hr.ext y, y.out hB⟩ | ((repeat apply Exists.intro); exact ⟨⟨k + 1, _, a + 1, s, by omega, by omega, by go_num, rfl, by omega, by omega, by omega, by omega, ⟨hge, hne, hgr⟩, hc.ext y, hr.ext y, y.out hB⟩, rfl⟩)
            case measure => simp [intOf]; omega
          · skip
            go_wp2_with fail
            refine (next_c b l a (a + 1) s _ hc (by omega) rfl (by omega) (by omega)).mono ?_
            rintro e w' ⟨rfl, hg, hn⟩
            replace hr := hr.grown hg hne.symm
            replace hc := hn
            replace hB := hB.trans (below_of_grown hg hB.size hge)
            clear hg hn
            have r0 := hr.here 0 _ rfl
            have r1 := hr.here 1 _ rfl
            have r2 := hr.here 2 _ rfl
            have rf0 := (hr.2 0 _ rfl).2
            have rf1 := (hr.2 1 _ rfl).2
            have rf2 := (hr.2 2 _ rfl).2
            go_wp2_with fail
            clear r0 r1 r2 rf0 rf1 rf2
            refine (rnext_any l a s (by omega) (by omega) _).mono ?_
            rintro e w' ⟨rfl, hb⟩
            replace hc := hc.below hb
            replace hr := hr.below hb
            replace hB := hB.trans (hb.mono hB.size)
            clear hb
            have r0 := hr.here 0 _ rfl
            have r1 := hr.here 1 _ rfl
            have r2 := hr.here 2 _ rfl
            have rf0 := (hr.2 0 _ rfl).2
            have rf1 := (hr.2 1 _ rfl).2
            have rf2 := (hr.2 2 _ rfl).2
            go_wp2_with fail
            clear r0 r1 r2 rf0 rf1 rf2
            refine wp_re (fun W => Has W b [.int .i64 l, .int .i64 (a + 1), .int .i64 s] ∧ Has W br [.int .i64 l, .int .i64 (a + 1), .int .i64 s] ∧ Below w.heap.size w W) ⟨(((hc.far (p := ⟨br, 0, none⟩) hne.symm (.int .i64 (l))).far (p := ⟨br, 1, none⟩) hne.symm (.int .i64 (a + 1))).far (p := ⟨br, 2, none⟩) hne.symm (.int .i64 (s))), (((hr.set_ 0 (.int .i64 (l)) (by simp)).set_ 1 (.int .i64 (a + 1)) (by simp)).set_ 2 (.int .i64 (s)) (by simp)), (outS (outS (outS hB (p := ⟨br, 0, none⟩) hgr (.int .i64 (l))) (p := ⟨br, 1, none⟩) hgr (.int .i64 (a + 1))) (p := ⟨br, 2, none⟩) hgr (.int .i64 (s)))⟩ ?_
            clear hc hr hB
            rintro W2 ⟨hc, hr, hB⟩ x
            have r0 := hr.at_ 0 _ rfl
            have r1 := hr.at_ 1 _ rfl
            have r2 := hr.at_ 2 _ rfl
            refine region_cl (x := x) (by kernel_rfl) (by kernel_rfl) ?_
            repeat (go_big_quiet_step (first | (go_at_call 15; exact calls_cl (now_yes _ l (a + 1) (s) _ (hc.ext _) (by omega))) | (go_at_call 16; exact calls_cl (last_yes _ l (a + 1) (s) _ (hc.ext _) (by omega))) | (go_at_call 17; exact calls_cl (full_not _ l (a + 1) (s) _ (hc.ext _) (by omega) (by omega) (by omega) (by omega) (by omega))) | (go_at_call 18; exact calls_cl (rfull_any l (a + 1) (s) false (by simp; omega) _)) | (go_at_call 19; exact calls_cl (left_yes _ l (a + 1) (s) _ (hc.ext _) (by omega) (by omega) (by omega) (by omega) (by omega))) | (go_at_call 20; exact calls_cl (rleft_not l (a + 1) (s) (by omega) (by omega) (by omega) _))))
            refine wpQuiet_nil ?_
            rintro w' ⟨y, rfl⟩
            clear r0 r1 r2
            go_wp2_with fail
            go_roundw
            case rel => first | exact ⟨k + 1, _, a + 1, s, by omega, by omega, by go_num, rfl, by omega, by omega, by omega, by omega, ⟨hge, hne, hgr⟩, hc.ext y, hr.ext y, y.out hB⟩ | ((repeat apply Exists.intro); exact ⟨⟨k + 1, _, a + 1, s, by omega, by omega, by go_num, rfl, by omega, by omega, by omega, by omega, ⟨hge, hne, hgr⟩, hc.ext y, hr.ext y, y.out hB⟩, rfl⟩)
            case measure => simp [intOf]; omega
        · have hv : u % 6 = 1 := hv
          by_cases hf : l ≤ a + 1
          · skip
            go_wp2_with fail
            refine (next_c b l a (a + 1) s _ hc (by omega) rfl (by omega) (by omega)).mono ?_
            rintro e w' ⟨rfl, hg, hn⟩
            replace hr := hr.grown hg hne.symm
            replace hc := hn
            replace hB := hB.trans (below_of_grown hg hB.size hge)
            clear hg hn
            have r0 := hr.here 0 _ rfl
            have r1 := hr.here 1 _ rfl
            have r2 := hr.here 2 _ rfl
            have rf0 := (hr.2 0 _ rfl).2
            have rf1 := (hr.2 1 _ rfl).2
            have rf2 := (hr.2 2 _ rfl).2
            go_wp2_with fail
            clear r0 r1 r2 rf0 rf1 rf2
            refine (rnext_any l a s (by omega) (by omega) _).mono ?_
            rintro e w' ⟨rfl, hb⟩
            replace hc := hc.below hb
            replace hr := hr.below hb
            replace hB := hB.trans (hb.mono hB.size)
            clear hb
            have r0 := hr.here 0 _ rfl
            have r1 := hr.here 1 _ rfl
            have r2 := hr.here 2 _ rfl
            have rf0 := (hr.2 0 _ rfl).2
            have rf1 := (hr.2 1 _ rfl).2
            have rf2 := (hr.2 2 _ rfl).2
            go_wp2_with fail
            clear r0 r1 r2 rf0 rf1 rf2
            refine wp_re (fun W => Has W b [.int .i64 l, .int .i64 (a + 1), .int .i64 s] ∧ Has W br [.int .i64 l, .int .i64 (a + 1), .int .i64 s] ∧ Below w.heap.size w W) ⟨(((hc.far (p := ⟨br, 0, none⟩) hne.symm (.int .i64 (l))).far (p := ⟨br, 1, none⟩) hne.symm (.int .i64 (a + 1))).far (p := ⟨br, 2, none⟩) hne.symm (.int .i64 (s))), (((hr.set_ 0 (.int .i64 (l)) (by simp)).set_ 1 (.int .i64 (a + 1)) (by simp)).set_ 2 (.int .i64 (s)) (by simp)), (outS (outS (outS hB (p := ⟨br, 0, none⟩) hgr (.int .i64 (l))) (p := ⟨br, 1, none⟩) hgr (.int .i64 (a + 1))) (p := ⟨br, 2, none⟩) hgr (.int .i64 (s)))⟩ ?_
            clear hc hr hB
            rintro W2 ⟨hc, hr, hB⟩ x
            have r0 := hr.at_ 0 _ rfl
            have r1 := hr.at_ 1 _ rfl
            have r2 := hr.at_ 2 _ rfl
            refine region_cl (x := x) (by kernel_rfl) (by kernel_rfl) ?_
            repeat (go_big_quiet_step (first | (go_at_call 15; exact calls_cl (now_yes _ l (a + 1) (s) _ (hc.ext _) (by omega))) | (go_at_call 16; exact calls_cl (last_yes _ l (a + 1) (s) _ (hc.ext _) (by omega))) | (go_at_call 17; exact calls_cl (full_yes _ l (a + 1) (s) _ (hc.ext _) (by omega) (by omega) (by omega) (by omega) (by omega))) | (go_at_call 18; exact calls_cl (rfull_any l (a + 1) (s) true (by simp; omega) _)) | (go_at_call 19; exact calls_cl (left_full _ l (a + 1) (s) _ (hc.ext _) (by omega) (by omega) (by omega) (by omega) (by omega))) | (go_at_call 20; exact calls_cl (rleft_full l (a + 1) (s) (by omega) _))))
            refine wpQuiet_nil ?_
            rintro w' ⟨y, rfl⟩
            clear r0 r1 r2
            go_wp2_with fail
            go_roundw
            case rel => first | exact ⟨k + 1, _, a + 1, s, by omega, by omega, by go_num, rfl, by omega, by omega, by omega, by omega, ⟨hge, hne, hgr⟩, hc.ext y, hr.ext y, y.out hB⟩ | ((repeat apply Exists.intro); exact ⟨⟨k + 1, _, a + 1, s, by omega, by omega, by go_num, rfl, by omega, by omega, by omega, by omega, ⟨hge, hne, hgr⟩, hc.ext y, hr.ext y, y.out hB⟩, rfl⟩)
            case measure => simp [intOf]; omega
          · skip
            go_wp2_with fail
            refine (next_c b l a (a + 1) s _ hc (by omega) rfl (by omega) (by omega)).mono ?_
            rintro e w' ⟨rfl, hg, hn⟩
            replace hr := hr.grown hg hne.symm
            replace hc := hn
            replace hB := hB.trans (below_of_grown hg hB.size hge)
            clear hg hn
            have r0 := hr.here 0 _ rfl
            have r1 := hr.here 1 _ rfl
            have r2 := hr.here 2 _ rfl
            have rf0 := (hr.2 0 _ rfl).2
            have rf1 := (hr.2 1 _ rfl).2
            have rf2 := (hr.2 2 _ rfl).2
            go_wp2_with fail
            clear r0 r1 r2 rf0 rf1 rf2
            refine (rnext_any l a s (by omega) (by omega) _).mono ?_
            rintro e w' ⟨rfl, hb⟩
            replace hc := hc.below hb
            replace hr := hr.below hb
            replace hB := hB.trans (hb.mono hB.size)
            clear hb
            have r0 := hr.here 0 _ rfl
            have r1 := hr.here 1 _ rfl
            have r2 := hr.here 2 _ rfl
            have rf0 := (hr.2 0 _ rfl).2
            have rf1 := (hr.2 1 _ rfl).2
            have rf2 := (hr.2 2 _ rfl).2
            go_wp2_with fail
            clear r0 r1 r2 rf0 rf1 rf2
            refine wp_re (fun W => Has W b [.int .i64 l, .int .i64 (a + 1), .int .i64 s] ∧ Has W br [.int .i64 l, .int .i64 (a + 1), .int .i64 s] ∧ Below w.heap.size w W) ⟨(((hc.far (p := ⟨br, 0, none⟩) hne.symm (.int .i64 (l))).far (p := ⟨br, 1, none⟩) hne.symm (.int .i64 (a + 1))).far (p := ⟨br, 2, none⟩) hne.symm (.int .i64 (s))), (((hr.set_ 0 (.int .i64 (l)) (by simp)).set_ 1 (.int .i64 (a + 1)) (by simp)).set_ 2 (.int .i64 (s)) (by simp)), (outS (outS (outS hB (p := ⟨br, 0, none⟩) hgr (.int .i64 (l))) (p := ⟨br, 1, none⟩) hgr (.int .i64 (a + 1))) (p := ⟨br, 2, none⟩) hgr (.int .i64 (s)))⟩ ?_
            clear hc hr hB
            rintro W2 ⟨hc, hr, hB⟩ x
            have r0 := hr.at_ 0 _ rfl
            have r1 := hr.at_ 1 _ rfl
            have r2 := hr.at_ 2 _ rfl
            refine region_cl (x := x) (by kernel_rfl) (by kernel_rfl) ?_
            repeat (go_big_quiet_step (first | (go_at_call 15; exact calls_cl (now_yes _ l (a + 1) (s) _ (hc.ext _) (by omega))) | (go_at_call 16; exact calls_cl (last_yes _ l (a + 1) (s) _ (hc.ext _) (by omega))) | (go_at_call 17; exact calls_cl (full_not _ l (a + 1) (s) _ (hc.ext _) (by omega) (by omega) (by omega) (by omega) (by omega))) | (go_at_call 18; exact calls_cl (rfull_any l (a + 1) (s) false (by simp; omega) _)) | (go_at_call 19; exact calls_cl (left_yes _ l (a + 1) (s) _ (hc.ext _) (by omega) (by omega) (by omega) (by omega) (by omega))) | (go_at_call 20; exact calls_cl (rleft_not l (a + 1) (s) (by omega) (by omega) (by omega) _))))
            refine wpQuiet_nil ?_
            rintro w' ⟨y, rfl⟩
            clear r0 r1 r2
            go_wp2_with fail
            go_roundw
            case rel => first | exact ⟨k + 1, _, a + 1, s, by omega, by omega, by go_num, rfl, by omega, by omega, by omega, by omega, ⟨hge, hne, hgr⟩, hc.ext y, hr.ext y, y.out hB⟩ | ((repeat apply Exists.intro); exact ⟨⟨k + 1, _, a + 1, s, by omega, by omega, by go_num, rfl, by omega, by omega, by omega, by omega, ⟨hge, hne, hgr⟩, hc.ext y, hr.ext y, y.out hB⟩, rfl⟩)
            case measure => simp [intOf]; omega
        · have hv : u % 6 = 2 := hv
          by_cases hf : l ≤ a + 1
          · skip
            go_wp2_with fail
            refine (next_c b l a (a + 1) s _ hc (by omega) rfl (by omega) (by omega)).mono ?_
            rintro e w' ⟨rfl, hg, hn⟩
            replace hr := hr.grown hg hne.symm
            replace hc := hn
            replace hB := hB.trans (below_of_grown hg hB.size hge)
            clear hg hn
            have r0 := hr.here 0 _ rfl
            have r1 := hr.here 1 _ rfl
            have r2 := hr.here 2 _ rfl
            have rf0 := (hr.2 0 _ rfl).2
            have rf1 := (hr.2 1 _ rfl).2
            have rf2 := (hr.2 2 _ rfl).2
            go_wp2_with fail
            clear r0 r1 r2 rf0 rf1 rf2
            refine (rnext_any l a s (by omega) (by omega) _).mono ?_
            rintro e w' ⟨rfl, hb⟩
            replace hc := hc.below hb
            replace hr := hr.below hb
            replace hB := hB.trans (hb.mono hB.size)
            clear hb
            have r0 := hr.here 0 _ rfl
            have r1 := hr.here 1 _ rfl
            have r2 := hr.here 2 _ rfl
            have rf0 := (hr.2 0 _ rfl).2
            have rf1 := (hr.2 1 _ rfl).2
            have rf2 := (hr.2 2 _ rfl).2
            go_wp2_with fail
            clear r0 r1 r2 rf0 rf1 rf2
            refine wp_re (fun W => Has W b [.int .i64 l, .int .i64 (a + 1), .int .i64 s] ∧ Has W br [.int .i64 l, .int .i64 (a + 1), .int .i64 s] ∧ Below w.heap.size w W) ⟨(((hc.far (p := ⟨br, 0, none⟩) hne.symm (.int .i64 (l))).far (p := ⟨br, 1, none⟩) hne.symm (.int .i64 (a + 1))).far (p := ⟨br, 2, none⟩) hne.symm (.int .i64 (s))), (((hr.set_ 0 (.int .i64 (l)) (by simp)).set_ 1 (.int .i64 (a + 1)) (by simp)).set_ 2 (.int .i64 (s)) (by simp)), (outS (outS (outS hB (p := ⟨br, 0, none⟩) hgr (.int .i64 (l))) (p := ⟨br, 1, none⟩) hgr (.int .i64 (a + 1))) (p := ⟨br, 2, none⟩) hgr (.int .i64 (s)))⟩ ?_
            clear hc hr hB
            rintro W2 ⟨hc, hr, hB⟩ x
            have r0 := hr.at_ 0 _ rfl
            have r1 := hr.at_ 1 _ rfl
            have r2 := hr.at_ 2 _ rfl
            refine region_cl (x := x) (by kernel_rfl) (by kernel_rfl) ?_
            repeat (go_big_quiet_step (first | (go_at_call 15; exact calls_cl (now_yes _ l (a + 1) (s) _ (hc.ext _) (by omega))) | (go_at_call 16; exact calls_cl (last_yes _ l (a + 1) (s) _ (hc.ext _) (by omega))) | (go_at_call 17; exact calls_cl (full_yes _ l (a + 1) (s) _ (hc.ext _) (by omega) (by omega) (by omega) (by omega) (by omega))) | (go_at_call 18; exact calls_cl (rfull_any l (a + 1) (s) true (by simp; omega) _)) | (go_at_call 19; exact calls_cl (left_full _ l (a + 1) (s) _ (hc.ext _) (by omega) (by omega) (by omega) (by omega) (by omega))) | (go_at_call 20; exact calls_cl (rleft_full l (a + 1) (s) (by omega) _))))
            refine wpQuiet_nil ?_
            rintro w' ⟨y, rfl⟩
            clear r0 r1 r2
            go_wp2_with fail
            go_roundw
            case rel => first | exact ⟨k + 1, _, a + 1, s, by omega, by omega, by go_num, rfl, by omega, by omega, by omega, by omega, ⟨hge, hne, hgr⟩, hc.ext y, hr.ext y, y.out hB⟩ | ((repeat apply Exists.intro); exact ⟨⟨k + 1, _, a + 1, s, by omega, by omega, by go_num, rfl, by omega, by omega, by omega, by omega, ⟨hge, hne, hgr⟩, hc.ext y, hr.ext y, y.out hB⟩, rfl⟩)
            case measure => simp [intOf]; omega
          · skip
            go_wp2_with fail
            refine (next_c b l a (a + 1) s _ hc (by omega) rfl (by omega) (by omega)).mono ?_
            rintro e w' ⟨rfl, hg, hn⟩
            replace hr := hr.grown hg hne.symm
            replace hc := hn
            replace hB := hB.trans (below_of_grown hg hB.size hge)
            clear hg hn
            have r0 := hr.here 0 _ rfl
            have r1 := hr.here 1 _ rfl
            have r2 := hr.here 2 _ rfl
            have rf0 := (hr.2 0 _ rfl).2
            have rf1 := (hr.2 1 _ rfl).2
            have rf2 := (hr.2 2 _ rfl).2
            go_wp2_with fail
            clear r0 r1 r2 rf0 rf1 rf2
            refine (rnext_any l a s (by omega) (by omega) _).mono ?_
            rintro e w' ⟨rfl, hb⟩
            replace hc := hc.below hb
            replace hr := hr.below hb
            replace hB := hB.trans (hb.mono hB.size)
            clear hb
            have r0 := hr.here 0 _ rfl
            have r1 := hr.here 1 _ rfl
            have r2 := hr.here 2 _ rfl
            have rf0 := (hr.2 0 _ rfl).2
            have rf1 := (hr.2 1 _ rfl).2
            have rf2 := (hr.2 2 _ rfl).2
            go_wp2_with fail
            clear r0 r1 r2 rf0 rf1 rf2
            refine wp_re (fun W => Has W b [.int .i64 l, .int .i64 (a + 1), .int .i64 s] ∧ Has W br [.int .i64 l, .int .i64 (a + 1), .int .i64 s] ∧ Below w.heap.size w W) ⟨(((hc.far (p := ⟨br, 0, none⟩) hne.symm (.int .i64 (l))).far (p := ⟨br, 1, none⟩) hne.symm (.int .i64 (a + 1))).far (p := ⟨br, 2, none⟩) hne.symm (.int .i64 (s))), (((hr.set_ 0 (.int .i64 (l)) (by simp)).set_ 1 (.int .i64 (a + 1)) (by simp)).set_ 2 (.int .i64 (s)) (by simp)), (outS (outS (outS hB (p := ⟨br, 0, none⟩) hgr (.int .i64 (l))) (p := ⟨br, 1, none⟩) hgr (.int .i64 (a + 1))) (p := ⟨br, 2, none⟩) hgr (.int .i64 (s)))⟩ ?_
            clear hc hr hB
            rintro W2 ⟨hc, hr, hB⟩ x
            have r0 := hr.at_ 0 _ rfl
            have r1 := hr.at_ 1 _ rfl
            have r2 := hr.at_ 2 _ rfl
            refine region_cl (x := x) (by kernel_rfl) (by kernel_rfl) ?_
            repeat (go_big_quiet_step (first | (go_at_call 15; exact calls_cl (now_yes _ l (a + 1) (s) _ (hc.ext _) (by omega))) | (go_at_call 16; exact calls_cl (last_yes _ l (a + 1) (s) _ (hc.ext _) (by omega))) | (go_at_call 17; exact calls_cl (full_not _ l (a + 1) (s) _ (hc.ext _) (by omega) (by omega) (by omega) (by omega) (by omega))) | (go_at_call 18; exact calls_cl (rfull_any l (a + 1) (s) false (by simp; omega) _)) | (go_at_call 19; exact calls_cl (left_yes _ l (a + 1) (s) _ (hc.ext _) (by omega) (by omega) (by omega) (by omega) (by omega))) | (go_at_call 20; exact calls_cl (rleft_not l (a + 1) (s) (by omega) (by omega) (by omega) _))))
            refine wpQuiet_nil ?_
            rintro w' ⟨y, rfl⟩
            clear r0 r1 r2
            go_wp2_with fail
            go_roundw
            case rel => first | exact ⟨k + 1, _, a + 1, s, by omega, by omega, by go_num, rfl, by omega, by omega, by omega, by omega, ⟨hge, hne, hgr⟩, hc.ext y, hr.ext y, y.out hB⟩ | ((repeat apply Exists.intro); exact ⟨⟨k + 1, _, a + 1, s, by omega, by omega, by go_num, rfl, by omega, by omega, by omega, by omega, ⟨hge, hne, hgr⟩, hc.ext y, hr.ext y, y.out hB⟩, rfl⟩)
            case measure => simp [intOf]; omega
        · have hv : u % 6 = 3 := hv
          by_cases hf : l ≤ a
          · skip
            go_wp2_with fail
            refine (stamp_c b l a s (s + 1) _ hc (by omega) rfl (by omega) (by omega)).mono ?_
            rintro e w' ⟨rfl, hg, hn⟩
            replace hr := hr.grown hg hne.symm
            replace hc := hn
            replace hB := hB.trans (below_of_grown hg hB.size hge)
            clear hg hn
            have r0 := hr.here 0 _ rfl
            have r1 := hr.here 1 _ rfl
            have r2 := hr.here 2 _ rfl
            have rf0 := (hr.2 0 _ rfl).2
            have rf1 := (hr.2 1 _ rfl).2
            have rf2 := (hr.2 2 _ rfl).2
            go_wp2_with fail
            clear r0 r1 r2 rf0 rf1 rf2
            refine (rstamp_any l a s (by omega) (by omega) _).mono ?_
            rintro e w' ⟨rfl, hb⟩
            replace hc := hc.below hb
            replace hr := hr.below hb
            replace hB := hB.trans (hb.mono hB.size)
            clear hb
            have r0 := hr.here 0 _ rfl
            have r1 := hr.here 1 _ rfl
            have r2 := hr.here 2 _ rfl
            have rf0 := (hr.2 0 _ rfl).2
            have rf1 := (hr.2 1 _ rfl).2
            have rf2 := (hr.2 2 _ rfl).2
            go_wp2_with fail
            clear r0 r1 r2 rf0 rf1 rf2
            refine wp_re (fun W => Has W b [.int .i64 l, .int .i64 a, .int .i64 (s + 1)] ∧ Has W br [.int .i64 l, .int .i64 a, .int .i64 (s + 1)] ∧ Below w.heap.size w W) ⟨(((hc.far (p := ⟨br, 0, none⟩) hne.symm (.int .i64 (l))).far (p := ⟨br, 1, none⟩) hne.symm (.int .i64 (a))).far (p := ⟨br, 2, none⟩) hne.symm (.int .i64 (s + 1))), (((hr.set_ 0 (.int .i64 (l)) (by simp)).set_ 1 (.int .i64 (a)) (by simp)).set_ 2 (.int .i64 (s + 1)) (by simp)), (outS (outS (outS hB (p := ⟨br, 0, none⟩) hgr (.int .i64 (l))) (p := ⟨br, 1, none⟩) hgr (.int .i64 (a))) (p := ⟨br, 2, none⟩) hgr (.int .i64 (s + 1)))⟩ ?_
            clear hc hr hB
            rintro W2 ⟨hc, hr, hB⟩ x
            have r0 := hr.at_ 0 _ rfl
            have r1 := hr.at_ 1 _ rfl
            have r2 := hr.at_ 2 _ rfl
            refine region_cl (x := x) (by kernel_rfl) (by kernel_rfl) ?_
            repeat (go_big_quiet_step (first | (go_at_call 15; exact calls_cl (now_yes _ l (a) (s + 1) _ (hc.ext _) (by omega))) | (go_at_call 16; exact calls_cl (last_yes _ l (a) (s + 1) _ (hc.ext _) (by omega))) | (go_at_call 17; exact calls_cl (full_yes _ l (a) (s + 1) _ (hc.ext _) (by omega) (by omega) (by omega) (by omega) (by omega))) | (go_at_call 18; exact calls_cl (rfull_any l (a) (s + 1) true (by simp; omega) _)) | (go_at_call 19; exact calls_cl (left_full _ l (a) (s + 1) _ (hc.ext _) (by omega) (by omega) (by omega) (by omega) (by omega))) | (go_at_call 20; exact calls_cl (rleft_full l (a) (s + 1) (by omega) _))))
            refine wpQuiet_nil ?_
            rintro w' ⟨y, rfl⟩
            clear r0 r1 r2
            go_wp2_with fail
            go_roundw
            case rel => first | exact ⟨k + 1, _, a, s + 1, by omega, by omega, by go_num, rfl, by omega, by omega, by omega, by omega, ⟨hge, hne, hgr⟩, hc.ext y, hr.ext y, y.out hB⟩ | ((repeat apply Exists.intro); exact ⟨⟨k + 1, _, a, s + 1, by omega, by omega, by go_num, rfl, by omega, by omega, by omega, by omega, ⟨hge, hne, hgr⟩, hc.ext y, hr.ext y, y.out hB⟩, rfl⟩)
            case measure => simp [intOf]; omega
          · skip
            go_wp2_with fail
            refine (stamp_c b l a s (s + 1) _ hc (by omega) rfl (by omega) (by omega)).mono ?_
            rintro e w' ⟨rfl, hg, hn⟩
            replace hr := hr.grown hg hne.symm
            replace hc := hn
            replace hB := hB.trans (below_of_grown hg hB.size hge)
            clear hg hn
            have r0 := hr.here 0 _ rfl
            have r1 := hr.here 1 _ rfl
            have r2 := hr.here 2 _ rfl
            have rf0 := (hr.2 0 _ rfl).2
            have rf1 := (hr.2 1 _ rfl).2
            have rf2 := (hr.2 2 _ rfl).2
            go_wp2_with fail
            clear r0 r1 r2 rf0 rf1 rf2
            refine (rstamp_any l a s (by omega) (by omega) _).mono ?_
            rintro e w' ⟨rfl, hb⟩
            replace hc := hc.below hb
            replace hr := hr.below hb
            replace hB := hB.trans (hb.mono hB.size)
            clear hb
            have r0 := hr.here 0 _ rfl
            have r1 := hr.here 1 _ rfl
            have r2 := hr.here 2 _ rfl
            have rf0 := (hr.2 0 _ rfl).2
            have rf1 := (hr.2 1 _ rfl).2
            have rf2 := (hr.2 2 _ rfl).2
            go_wp2_with fail
            clear r0 r1 r2 rf0 rf1 rf2
            refine wp_re (fun W => Has W b [.int .i64 l, .int .i64 a, .int .i64 (s + 1)] ∧ Has W br [.int .i64 l, .int .i64 a, .int .i64 (s + 1)] ∧ Below w.heap.size w W) ⟨(((hc.far (p := ⟨br, 0, none⟩) hne.symm (.int .i64 (l))).far (p := ⟨br, 1, none⟩) hne.symm (.int .i64 (a))).far (p := ⟨br, 2, none⟩) hne.symm (.int .i64 (s + 1))), (((hr.set_ 0 (.int .i64 (l)) (by simp)).set_ 1 (.int .i64 (a)) (by simp)).set_ 2 (.int .i64 (s + 1)) (by simp)), (outS (outS (outS hB (p := ⟨br, 0, none⟩) hgr (.int .i64 (l))) (p := ⟨br, 1, none⟩) hgr (.int .i64 (a))) (p := ⟨br, 2, none⟩) hgr (.int .i64 (s + 1)))⟩ ?_
            clear hc hr hB
            rintro W2 ⟨hc, hr, hB⟩ x
            have r0 := hr.at_ 0 _ rfl
            have r1 := hr.at_ 1 _ rfl
            have r2 := hr.at_ 2 _ rfl
            refine region_cl (x := x) (by kernel_rfl) (by kernel_rfl) ?_
            repeat (go_big_quiet_step (first | (go_at_call 15; exact calls_cl (now_yes _ l (a) (s + 1) _ (hc.ext _) (by omega))) | (go_at_call 16; exact calls_cl (last_yes _ l (a) (s + 1) _ (hc.ext _) (by omega))) | (go_at_call 17; exact calls_cl (full_not _ l (a) (s + 1) _ (hc.ext _) (by omega) (by omega) (by omega) (by omega) (by omega))) | (go_at_call 18; exact calls_cl (rfull_any l (a) (s + 1) false (by simp; omega) _)) | (go_at_call 19; exact calls_cl (left_yes _ l (a) (s + 1) _ (hc.ext _) (by omega) (by omega) (by omega) (by omega) (by omega))) | (go_at_call 20; exact calls_cl (rleft_not l (a) (s + 1) (by omega) (by omega) (by omega) _))))
            refine wpQuiet_nil ?_
            rintro w' ⟨y, rfl⟩
            clear r0 r1 r2
            go_wp2_with fail
            go_roundw
            case rel => first | exact ⟨k + 1, _, a, s + 1, by omega, by omega, by go_num, rfl, by omega, by omega, by omega, by omega, ⟨hge, hne, hgr⟩, hc.ext y, hr.ext y, y.out hB⟩ | ((repeat apply Exists.intro); exact ⟨⟨k + 1, _, a, s + 1, by omega, by omega, by go_num, rfl, by omega, by omega, by omega, by omega, ⟨hge, hne, hgr⟩, hc.ext y, hr.ext y, y.out hB⟩, rfl⟩)
            case measure => simp [intOf]; omega
        · have hv : u % 6 = 4 := hv
          by_cases hf : l ≤ a
          · skip
            go_wp2_with fail
            refine (stamp_c b l a s (s + 1) _ hc (by omega) rfl (by omega) (by omega)).mono ?_
            rintro e w' ⟨rfl, hg, hn⟩
            replace hr := hr.grown hg hne.symm
            replace hc := hn
            replace hB := hB.trans (below_of_grown hg hB.size hge)
            clear hg hn
            have r0 := hr.here 0 _ rfl
            have r1 := hr.here 1 _ rfl
            have r2 := hr.here 2 _ rfl
            have rf0 := (hr.2 0 _ rfl).2
            have rf1 := (hr.2 1 _ rfl).2
            have rf2 := (hr.2 2 _ rfl).2
            go_wp2_with fail
            clear r0 r1 r2 rf0 rf1 rf2
            refine (rstamp_any l a s (by omega) (by omega) _).mono ?_
            rintro e w' ⟨rfl, hb⟩
            replace hc := hc.below hb
            replace hr := hr.below hb
            replace hB := hB.trans (hb.mono hB.size)
            clear hb
            have r0 := hr.here 0 _ rfl
            have r1 := hr.here 1 _ rfl
            have r2 := hr.here 2 _ rfl
            have rf0 := (hr.2 0 _ rfl).2
            have rf1 := (hr.2 1 _ rfl).2
            have rf2 := (hr.2 2 _ rfl).2
            go_wp2_with fail
            clear r0 r1 r2 rf0 rf1 rf2
            refine wp_re (fun W => Has W b [.int .i64 l, .int .i64 a, .int .i64 (s + 1)] ∧ Has W br [.int .i64 l, .int .i64 a, .int .i64 (s + 1)] ∧ Below w.heap.size w W) ⟨(((hc.far (p := ⟨br, 0, none⟩) hne.symm (.int .i64 (l))).far (p := ⟨br, 1, none⟩) hne.symm (.int .i64 (a))).far (p := ⟨br, 2, none⟩) hne.symm (.int .i64 (s + 1))), (((hr.set_ 0 (.int .i64 (l)) (by simp)).set_ 1 (.int .i64 (a)) (by simp)).set_ 2 (.int .i64 (s + 1)) (by simp)), (outS (outS (outS hB (p := ⟨br, 0, none⟩) hgr (.int .i64 (l))) (p := ⟨br, 1, none⟩) hgr (.int .i64 (a))) (p := ⟨br, 2, none⟩) hgr (.int .i64 (s + 1)))⟩ ?_
            clear hc hr hB
            rintro W2 ⟨hc, hr, hB⟩ x
            have r0 := hr.at_ 0 _ rfl
            have r1 := hr.at_ 1 _ rfl
            have r2 := hr.at_ 2 _ rfl
            refine region_cl (x := x) (by kernel_rfl) (by kernel_rfl) ?_
            repeat (go_big_quiet_step (first | (go_at_call 15; exact calls_cl (now_yes _ l (a) (s + 1) _ (hc.ext _) (by omega))) | (go_at_call 16; exact calls_cl (last_yes _ l (a) (s + 1) _ (hc.ext _) (by omega))) | (go_at_call 17; exact calls_cl (full_yes _ l (a) (s + 1) _ (hc.ext _) (by omega) (by omega) (by omega) (by omega) (by omega))) | (go_at_call 18; exact calls_cl (rfull_any l (a) (s + 1) true (by simp; omega) _)) | (go_at_call 19; exact calls_cl (left_full _ l (a) (s + 1) _ (hc.ext _) (by omega) (by omega) (by omega) (by omega) (by omega))) | (go_at_call 20; exact calls_cl (rleft_full l (a) (s + 1) (by omega) _))))
            refine wpQuiet_nil ?_
            rintro w' ⟨y, rfl⟩
            clear r0 r1 r2
            go_wp2_with fail
            go_roundw
            case rel => first | exact ⟨k + 1, _, a, s + 1, by omega, by omega, by go_num, rfl, by omega, by omega, by omega, by omega, ⟨hge, hne, hgr⟩, hc.ext y, hr.ext y, y.out hB⟩ | ((repeat apply Exists.intro); exact ⟨⟨k + 1, _, a, s + 1, by omega, by omega, by go_num, rfl, by omega, by omega, by omega, by omega, ⟨hge, hne, hgr⟩, hc.ext y, hr.ext y, y.out hB⟩, rfl⟩)
            case measure => simp [intOf]; omega
          · skip
            go_wp2_with fail
            refine (stamp_c b l a s (s + 1) _ hc (by omega) rfl (by omega) (by omega)).mono ?_
            rintro e w' ⟨rfl, hg, hn⟩
            replace hr := hr.grown hg hne.symm
            replace hc := hn
            replace hB := hB.trans (below_of_grown hg hB.size hge)
            clear hg hn
            have r0 := hr.here 0 _ rfl
            have r1 := hr.here 1 _ rfl
            have r2 := hr.here 2 _ rfl
            have rf0 := (hr.2 0 _ rfl).2
            have rf1 := (hr.2 1 _ rfl).2
            have rf2 := (hr.2 2 _ rfl).2
            go_wp2_with fail
            clear r0 r1 r2 rf0 rf1 rf2
            refine (rstamp_any l a s (by omega) (by omega) _).mono ?_
            rintro e w' ⟨rfl, hb⟩
            replace hc := hc.below hb
            replace hr := hr.below hb
            replace hB := hB.trans (hb.mono hB.size)
            clear hb
            have r0 := hr.here 0 _ rfl
            have r1 := hr.here 1 _ rfl
            have r2 := hr.here 2 _ rfl
            have rf0 := (hr.2 0 _ rfl).2
            have rf1 := (hr.2 1 _ rfl).2
            have rf2 := (hr.2 2 _ rfl).2
            go_wp2_with fail
            clear r0 r1 r2 rf0 rf1 rf2
            refine wp_re (fun W => Has W b [.int .i64 l, .int .i64 a, .int .i64 (s + 1)] ∧ Has W br [.int .i64 l, .int .i64 a, .int .i64 (s + 1)] ∧ Below w.heap.size w W) ⟨(((hc.far (p := ⟨br, 0, none⟩) hne.symm (.int .i64 (l))).far (p := ⟨br, 1, none⟩) hne.symm (.int .i64 (a))).far (p := ⟨br, 2, none⟩) hne.symm (.int .i64 (s + 1))), (((hr.set_ 0 (.int .i64 (l)) (by simp)).set_ 1 (.int .i64 (a)) (by simp)).set_ 2 (.int .i64 (s + 1)) (by simp)), (outS (outS (outS hB (p := ⟨br, 0, none⟩) hgr (.int .i64 (l))) (p := ⟨br, 1, none⟩) hgr (.int .i64 (a))) (p := ⟨br, 2, none⟩) hgr (.int .i64 (s + 1)))⟩ ?_
            clear hc hr hB
            rintro W2 ⟨hc, hr, hB⟩ x
            have r0 := hr.at_ 0 _ rfl
            have r1 := hr.at_ 1 _ rfl
            have r2 := hr.at_ 2 _ rfl
            refine region_cl (x := x) (by kernel_rfl) (by kernel_rfl) ?_
            repeat (go_big_quiet_step (first | (go_at_call 15; exact calls_cl (now_yes _ l (a) (s + 1) _ (hc.ext _) (by omega))) | (go_at_call 16; exact calls_cl (last_yes _ l (a) (s + 1) _ (hc.ext _) (by omega))) | (go_at_call 17; exact calls_cl (full_not _ l (a) (s + 1) _ (hc.ext _) (by omega) (by omega) (by omega) (by omega) (by omega))) | (go_at_call 18; exact calls_cl (rfull_any l (a) (s + 1) false (by simp; omega) _)) | (go_at_call 19; exact calls_cl (left_yes _ l (a) (s + 1) _ (hc.ext _) (by omega) (by omega) (by omega) (by omega) (by omega))) | (go_at_call 20; exact calls_cl (rleft_not l (a) (s + 1) (by omega) (by omega) (by omega) _))))
            refine wpQuiet_nil ?_
            rintro w' ⟨y, rfl⟩
            clear r0 r1 r2
            go_wp2_with fail
            go_roundw
            case rel => first | exact ⟨k + 1, _, a, s + 1, by omega, by omega, by go_num, rfl, by omega, by omega, by omega, by omega, ⟨hge, hne, hgr⟩, hc.ext y, hr.ext y, y.out hB⟩ | ((repeat apply Exists.intro); exact ⟨⟨k + 1, _, a, s + 1, by omega, by omega, by go_num, rfl, by omega, by omega, by omega, by omega, ⟨hge, hne, hgr⟩, hc.ext y, hr.ext y, y.out hB⟩, rfl⟩)
            case measure => simp [intOf]; omega
        · have hv : u % 6 = 5 := hv
          by_cases hf : l ≤ a
          · skip
            go_wp2_with fail
            refine (fork_yes b l a s _ hc (by omega)).mono ?_
            rintro e w1 ⟨b', rfl, hge', hb1, hc1⟩
            replace hc := hc.below hb1
            replace hr := hr.below hb1
            have hbb : b' ≠ b := by have := hcl; omega
            have hbr' : b' ≠ br := by have := hrl; omega
            replace hB := hB.trans (hb1.mono hB.size)
            go_wp2_with fail
            refine (next_c b l a (a + 1) s _ hc (by omega) rfl (by omega) (by omega)).mono ?_
            rintro e w' ⟨rfl, hg, hn⟩
            replace hr := hr.grown hg hne.symm
            replace hc1 := hc1.grown hg hbb
            replace hc := hn
            replace hB := hB.trans (below_of_grown hg hB.size hge)
            clear hg hn
            go_wp2_with fail
            refine (stamp_c b l (a + 1) s (s + 1) _ hc (by omega) rfl (by omega) (by omega)).mono ?_
            rintro e w' ⟨rfl, hg, hn⟩
            replace hr := hr.grown hg hne.symm
            replace hc1 := hc1.grown hg hbb
            replace hB := hB.trans (below_of_grown hg hB.size hge)
            clear hg hn hc
            have hgb : w.heap.size ≤ b' := Nat.le_trans hsz hge'
            go_wp2_with fail
            refine wp_re (fun W => Has W b' [.int .i64 l, .int .i64 a, .int .i64 s] ∧ Has W br [.int .i64 l, .int .i64 a, .int .i64 s] ∧ Below w.heap.size w W) ⟨hc1, hr, hB⟩ ?_
            clear hc1 hr hB hb1
            rintro W2 ⟨hc, hr, hB⟩ x
            have r0 := hr.at_ 0 _ rfl
            have r1 := hr.at_ 1 _ rfl
            have r2 := hr.at_ 2 _ rfl
            refine region_cl (x := x) (by kernel_rfl) (by kernel_rfl) ?_
            repeat (go_big_quiet_step (first | (go_at_call 15; exact calls_cl (now_yes _ l (a) (s) _ (hc.ext _) (by omega))) | (go_at_call 16; exact calls_cl (last_yes _ l (a) (s) _ (hc.ext _) (by omega))) | (go_at_call 17; exact calls_cl (full_yes _ l (a) (s) _ (hc.ext _) (by omega) (by omega) (by omega) (by omega) (by omega))) | (go_at_call 18; exact calls_cl (rfull_any l (a) (s) true (by simp; omega) _)) | (go_at_call 19; exact calls_cl (left_full _ l (a) (s) _ (hc.ext _) (by omega) (by omega) (by omega) (by omega) (by omega))) | (go_at_call 20; exact calls_cl (rleft_full l (a) (s) (by omega) _))))
            refine wpQuiet_nil ?_
            rintro w' ⟨y, rfl⟩
            clear r0 r1 r2
            go_wp2_with fail
            go_roundw
            case rel => first | exact ⟨k + 1, _, a, s, by omega, by omega, by go_num, rfl, by omega, by omega, by omega, by omega, ⟨hgb, hbr', hgr⟩, hc.ext y, hr.ext y, y.out hB⟩ | ((repeat apply Exists.intro); exact ⟨⟨k + 1, _, a, s, by omega, by omega, by go_num, rfl, by omega, by omega, by omega, by omega, ⟨hgb, hbr', hgr⟩, hc.ext y, hr.ext y, y.out hB⟩, rfl⟩)
            case measure => simp [intOf]; omega
          · skip
            go_wp2_with fail
            refine (fork_yes b l a s _ hc (by omega)).mono ?_
            rintro e w1 ⟨b', rfl, hge', hb1, hc1⟩
            replace hc := hc.below hb1
            replace hr := hr.below hb1
            have hbb : b' ≠ b := by have := hcl; omega
            have hbr' : b' ≠ br := by have := hrl; omega
            replace hB := hB.trans (hb1.mono hB.size)
            go_wp2_with fail
            refine (next_c b l a (a + 1) s _ hc (by omega) rfl (by omega) (by omega)).mono ?_
            rintro e w' ⟨rfl, hg, hn⟩
            replace hr := hr.grown hg hne.symm
            replace hc1 := hc1.grown hg hbb
            replace hc := hn
            replace hB := hB.trans (below_of_grown hg hB.size hge)
            clear hg hn
            go_wp2_with fail
            refine (stamp_c b l (a + 1) s (s + 1) _ hc (by omega) rfl (by omega) (by omega)).mono ?_
            rintro e w' ⟨rfl, hg, hn⟩
            replace hr := hr.grown hg hne.symm
            replace hc1 := hc1.grown hg hbb
            replace hB := hB.trans (below_of_grown hg hB.size hge)
            clear hg hn hc
            have hgb : w.heap.size ≤ b' := Nat.le_trans hsz hge'
            go_wp2_with fail
            refine wp_re (fun W => Has W b' [.int .i64 l, .int .i64 a, .int .i64 s] ∧ Has W br [.int .i64 l, .int .i64 a, .int .i64 s] ∧ Below w.heap.size w W) ⟨hc1, hr, hB⟩ ?_
            clear hc1 hr hB hb1
            rintro W2 ⟨hc, hr, hB⟩ x
            have r0 := hr.at_ 0 _ rfl
            have r1 := hr.at_ 1 _ rfl
            have r2 := hr.at_ 2 _ rfl
            refine region_cl (x := x) (by kernel_rfl) (by kernel_rfl) ?_
            repeat (go_big_quiet_step (first | (go_at_call 15; exact calls_cl (now_yes _ l (a) (s) _ (hc.ext _) (by omega))) | (go_at_call 16; exact calls_cl (last_yes _ l (a) (s) _ (hc.ext _) (by omega))) | (go_at_call 17; exact calls_cl (full_not _ l (a) (s) _ (hc.ext _) (by omega) (by omega) (by omega) (by omega) (by omega))) | (go_at_call 18; exact calls_cl (rfull_any l (a) (s) false (by simp; omega) _)) | (go_at_call 19; exact calls_cl (left_yes _ l (a) (s) _ (hc.ext _) (by omega) (by omega) (by omega) (by omega) (by omega))) | (go_at_call 20; exact calls_cl (rleft_not l (a) (s) (by omega) (by omega) (by omega) _))))
            refine wpQuiet_nil ?_
            rintro w' ⟨y, rfl⟩
            clear r0 r1 r2
            go_wp2_with fail
            go_roundw
            case rel => first | exact ⟨k + 1, _, a, s, by omega, by omega, by go_num, rfl, by omega, by omega, by omega, by omega, ⟨hgb, hbr', hgr⟩, hc.ext y, hr.ext y, y.out hB⟩ | ((repeat apply Exists.intro); exact ⟨⟨k + 1, _, a, s, by omega, by omega, by go_num, rfl, by omega, by omega, by omega, by omega, ⟨hgb, hbr', hgr⟩, hc.ext y, hr.ext y, y.out hB⟩, rfl⟩)
            case measure => simp [intOf]; omega
      · have hd2 : decide ((k : Int) < 100) = false := by simp; omega
        go_wp2_with fail
        go_ret
        exact Ret.of hB
    · have hd : decide ((k : Int) < (m : Int)) = false := by simp; omega
      go_wp2_with fail
      go_ret
      exact Ret.of hB

end Clk
end Go.Proofs.Ytgpholoonjglfaa
