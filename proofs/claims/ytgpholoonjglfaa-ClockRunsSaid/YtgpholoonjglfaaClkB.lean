/- The page's example of package clock, and the statements. -/
import Derived.Test.YtgpholoonjglfaaFrame
import Derived.Test.YtgpholoonjglfaaClkA
namespace Go.Proofs.Ytgpholoonjglfaa
open Go.ChangeShapes Go.WideShapes Go.ChangeAt Go.RowKit
namespace Clk


theorem next_c (b : Nat) (l a a1 s : Int) (w : World) (h : Has w b [.int .i64 l, .int .i64 a, .int .i64 s]) (hl : 0 < l) (h1 : a + 1 = a1) (h2 : -9223372036854775808 ≤ a1) (h3 : a1 ≤ 9223372036854775807) :
    Calls Try.prog 10 #[.pointer (some ⟨b, 0, none⟩)] w (RetM (.int .i64 a1) b [.int .i64 l, .int .i64 a1, .int .i64 s] w) := by
  have k := next_yes b l a s w h hl
  rwa [h1, IntWalk.wrap64_in a1 ⟨h2, h3⟩] at k
theorem stamp_c (b : Nat) (l a s s1 : Int) (w : World) (h : Has w b [.int .i64 l, .int .i64 a, .int .i64 s]) (hl : 0 < l) (h1 : s + 1 = s1) (h2 : -9223372036854775808 ≤ s1) (h3 : s1 ≤ 9223372036854775807) :
    Calls Try.prog 12 #[.pointer (some ⟨b, 0, none⟩)] w (RetM (.int .i64 s1) b [.int .i64 l, .int .i64 a, .int .i64 s1] w) := by
  have k := stamp_yes b l a s w h hl
  rwa [h1, IntWalk.wrap64_in s1 ⟨h2, h3⟩] at k

theorem awake_any (w : World) : Calls Try.prog 9 #[] w (Ret (.bool true) w) := by
  go_enter Try.func9, Try.ntmps9
  go_wp2_with fail
  refine (new_yes 2 (by omega) (by omega) _).mono ?_
  rintro e w' ⟨b, rfl, hge, hB, hc⟩
  go_wp2_with fail
  refine (next_c b 2 0 1 0 _ hc (by omega) (by omega) (by omega) (by omega)).mono ?_
  rintro e w' ⟨rfl, hg, hn⟩
  replace hc := hn
  replace hB := hB.trans (below_of_grown hg hB.size hge)
  clear hg hn
  go_wp2_with fail
  refine (next_c b 2 1 2 0 _ hc (by omega) (by omega) (by omega) (by omega)).mono ?_
  rintro e w' ⟨rfl, hg, hn⟩
  replace hc := hn
  replace hB := hB.trans (below_of_grown hg hB.size hge)
  clear hg hn
  go_wp2_with fail
  refine (full_yes b 2 2 0 _ hc (by omega) (by omega) (by omega) (by omega) (by omega)).mono ?_
  rintro e w' ⟨rfl, hb⟩
  replace hc := hc.below hb
  replace hB := hB.trans (hb.mono hB.size)
  clear hb
  go_wp2_with fail
  refine (next_c b 2 2 3 0 _ hc (by omega) (by omega) (by omega) (by omega)).mono ?_
  rintro e w' ⟨rfl, hg, hn⟩
  replace hc := hn
  replace hB := hB.trans (below_of_grown hg hB.size hge)
  clear hg hn
  go_wp2_with fail
  refine (stamp_c b 2 3 0 1 _ hc (by omega) (by omega) (by omega) (by omega)).mono ?_
  rintro e w' ⟨rfl, hg, hn⟩
  replace hc := hn
  replace hB := hB.trans (below_of_grown hg hB.size hge)
  clear hg hn
  go_wp2_with fail
  go_ret
  exact Ret.of hB

def FullRel (w : World) (b : Nat) (N : Int) (i : Value) (wr : World) : Prop := ∃ k : Nat, (k : Int) ≤ N + 3 ∧ i = .int .i64 k ∧ Has wr b [.int .i64 N, .int .i64 k, .int .i64 0] ∧ Below w.heap.size w wr
set_option maxRecDepth 100000 in
theorem full_walk (n : Int) (h0 : 0 ≤ n) (h1 : n ≤ 255) (w : World) : Calls Try.prog 5 #[.int .u8 n] w (Ret (.bool true) w) := by
  go_enter Try.func5, Try.ntmps5
  go_wp2_with fail
  obtain ⟨N, hN⟩ : ∃ N, 1 + n = N := ⟨_, rfl⟩
  rw [hN]
  have hN1 : 1 ≤ N := by omega
  have hN2 : N ≤ 256 := by omega
  have HN := Lib.hid hN
  clear hN
  refine (new_yes N (by omega) (by omega) _).mono ?_
  rintro e w' ⟨b, rfl, hge, hB, hc⟩
  go_wp2_with fail
  refine (awake_any _).mono ?_
  rintro e w' ⟨rfl, hb⟩
  replace hc := hc.below hb
  replace hB := hB.trans (hb.mono hB.size)
  clear hb
  go_wp2_with fail
  refine wp_re (fun W => Has W b [.int .i64 N, .int .i64 0, .int .i64 0] ∧ Below w.heap.size w W) ⟨hc, hB⟩ ?_
  clear hc hB
  rintro W ⟨hc, hB⟩ x
  have hR : FullRel w b N (.int .i64 0) x.w := ⟨0, by omega, rfl, hc.ext x, x.out hB⟩
  clear hc hB
  generalize x.w = wx at *
  go_loopw [6] (fun i wr => FullRel w b N i wr) (fun i _ => (N + 3 - intOf i).toNat)
  case atStart => exact hR
  case round =>
    obtain ⟨k, hk, rfl, hc, hB⟩ := hrel
    by_cases hlt : (k : Int) < N + 3
    · have q : (0 : Int) ≤ (k : Int) := Int.natCast_nonneg _
      by_cases hkN : (k : Int) < N
      · go_wp2_with fail
        refine (full_not b N k 0 _ hc (by omega) (by omega) (by omega) (by omega) (by omega)).mono ?_
        rintro e w' ⟨rfl, hb⟩
        replace hc := hc.below hb
        replace hB := hB.trans (hb.mono hB.size)
        clear hb
        go_wp2_with fail
        refine (left_yes b N k 0 _ hc (by omega) (by omega) (by omega) (by omega) (by omega)).mono ?_
        rintro e w' ⟨rfl, hb⟩
        replace hc := hc.below hb
        replace hB := hB.trans (hb.mono hB.size)
        clear hb
        go_wp2_with fail
        refine (next_c b N k (k + 1) 0 _ hc (by omega) (by omega) (by omega) (by omega)).mono ?_
        rintro e w' ⟨rfl, hg, hn⟩
        replace hc := hn
        replace hB := hB.trans (below_of_grown hg hB.size hge)
        clear hg hn
        go_wp2_with fail
        go_roundw
        case rel => exact ⟨k + 1, by omega, by go_num, hc, hB⟩
        case measure => simp [intOf]; omega
      · have hkN' : N ≤ (k : Int) := by omega
        go_wp2_with fail
        refine (full_yes b N k 0 _ hc (by omega) (by omega) (by omega) (by omega) (by omega)).mono ?_
        rintro e w' ⟨rfl, hb⟩
        replace hc := hc.below hb
        replace hB := hB.trans (hb.mono hB.size)
        clear hb
        go_wp2_with fail
        refine (left_full b N k 0 _ hc (by omega) (by omega) (by omega) (by omega) (by omega)).mono ?_
        rintro e w' ⟨rfl, hb⟩
        replace hc := hc.below hb
        replace hB := hB.trans (hb.mono hB.size)
        clear hb
        go_wp2_with fail
        refine (next_c b N k (k + 1) 0 _ hc (by omega) (by omega) (by omega) (by omega)).mono ?_
        rintro e w' ⟨rfl, hg, hn⟩
        replace hc := hn
        replace hB := hB.trans (below_of_grown hg hB.size hge)
        clear hg hn
        go_wp2_with fail
        go_roundw
        case rel => exact ⟨k + 1, by omega, by go_num, hc, hB⟩
        case measure => simp [intOf]; omega
    · go_wp2_with fail
      go_ret
      exact Ret.of hB

def RisesRel (w : World) (b m : Nat) (i : Value) (wr : World) : Prop := ∃ (k : Nat) (a s : Int), k ≤ m ∧ k ≤ 100 ∧ i = .int .i64 k ∧ 0 ≤ a ∧ 0 ≤ s ∧ a ≤ k ∧ s ≤ k ∧ Has wr b [.int .i64 5, .int .i64 a, .int .i64 s] ∧ Below w.heap.size w wr
set_option maxRecDepth 100000 in
set_option maxHeartbeats 1000000 in
theorem rises_walk (A : Option Addr) (m c : Nat) (z : Nat → Bool) (w : World) (hm : m ≤ 9223372036854775807) (hz : 0 < m → ∃ b o, A = some ⟨b, o, none⟩ ∧ b < w.heap.size ∧ ∀ i, i < m → w.cell? ⟨b, o + i, none⟩ = some (.bool (z i))) :
    Calls Try.prog 4 #[.slice A m c] w (Ret (.bool true) w) := by
  go_enter Try.func4, Try.ntmps4
  go_wp2_with fail
  refine (new_yes 5 (by omega) (by omega) _).mono ?_
  rintro e w' ⟨b, rfl, hge, hB, hc⟩
  go_wp2_with fail
  refine (awake_any _).mono ?_
  rintro e w' ⟨rfl, hb⟩
  replace hc := hc.below hb
  replace hB := hB.trans (hb.mono hB.size)
  clear hb
  go_wp2_with fail
  refine wp_re (fun W => Has W b [.int .i64 5, .int .i64 0, .int .i64 0] ∧ Below w.heap.size w W) ⟨hc, hB⟩ ?_
  clear hc hB
  rintro W ⟨hc, hB⟩ x
  have hR : RisesRel w b m (.int .i64 0) x.w := ⟨0, 0, 0, by omega, by omega, rfl, by omega, by omega, by omega, by omega, hc.ext x, x.out hB⟩
  clear hc hB
  generalize x.w = wx at *
  go_loopw [5] (fun i wr => RisesRel w b m i wr) (fun i _ => (100 - intOf i).toNat)
  case atStart => exact hR
  case round =>
    obtain ⟨k, a, s, hk, hk', rfl, ha, hs, hak, hsk, hc, hB⟩ := hrel
    have q : (0 : Int) ≤ (k : Int) := Int.natCast_nonneg _
    by_cases hlt : k < m
    · have hd : decide ((k : Int) < (m : Int)) = true := by simp; omega
      by_cases hlt2 : k < 100
      · have hd2 : decide ((k : Int) < 100) = true := by simp; omega
        obtain ⟨b0, o0, rfl, hb0, hcell⟩ := hz (by omega)
        have hv : ∃ v, z k = v := ⟨_, rfl⟩
        obtain ⟨v, hv⟩ := hv
        have hck := hcell k hlt
        rw [hv] at hck
        have HV := Lib.hid hv
        clear hv hcell
        cases v
        · go_wp2_with fail
          refine (now_yes b 5 a s _ hc (by omega)).mono ?_
          rintro e w' ⟨rfl, hb⟩
          replace hc := hc.below hb
          replace hB := hB.trans (hb.mono hB.size)
          clear hb
          go_wp2_with fail
          refine (last_yes b 5 a s _ hc (by omega)).mono ?_
          rintro e w' ⟨rfl, hb⟩
          replace hc := hc.below hb
          replace hB := hB.trans (hb.mono hB.size)
          clear hb
          have hcw := (hB.cell (p := ⟨b0, o0 + k, none⟩) hb0).trans hck
          have q1 : (k : Int) < (m : Int) := by omega
          go_wp2_with fail
          refine (stamp_c b 5 a s (s + 1) _ hc (by omega) rfl (by omega) (by omega)).mono ?_
          rintro e w' ⟨rfl, hg, hn⟩
          replace hc := hn
          replace hB := hB.trans (below_of_grown hg hB.size hge)
          clear hg hn
          go_wp2_with fail
          refine (last_yes b 5 a (s + 1) _ hc (by omega)).mono ?_
          rintro e w' ⟨rfl, hb⟩
          replace hc := hc.below hb
          replace hB := hB.trans (hb.mono hB.size)
          clear hb
          go_wp2_with fail
          refine (now_yes b 5 a (s + 1) _ hc (by omega)).mono ?_
          rintro e w' ⟨rfl, hb⟩
          replace hc := hc.below hb
          replace hB := hB.trans (hb.mono hB.size)
          clear hb
          go_wp2_with fail
          go_roundw
          case rel => exact ⟨k + 1, a, s + 1, by omega, by omega, by go_num, by omega, by omega, by omega, by omega, hc, hB⟩
          case measure => simp [intOf]; omega
        · go_wp2_with fail
          refine (now_yes b 5 a s _ hc (by omega)).mono ?_
          rintro e w' ⟨rfl, hb⟩
          replace hc := hc.below hb
          replace hB := hB.trans (hb.mono hB.size)
          clear hb
          go_wp2_with fail
          refine (last_yes b 5 a s _ hc (by omega)).mono ?_
          rintro e w' ⟨rfl, hb⟩
          replace hc := hc.below hb
          replace hB := hB.trans (hb.mono hB.size)
          clear hb
          have hcw := (hB.cell (p := ⟨b0, o0 + k, none⟩) hb0).trans hck
          have q1 : (k : Int) < (m : Int) := by omega
          go_wp2_with fail
          refine (next_c b 5 a (a + 1) s _ hc (by omega) rfl (by omega) (by omega)).mono ?_
          rintro e w' ⟨rfl, hg, hn⟩
          replace hc := hn
          replace hB := hB.trans (below_of_grown hg hB.size hge)
          clear hg hn
          go_wp2_with fail
          refine (now_yes b 5 (a + 1) s _ hc (by omega)).mono ?_
          rintro e w' ⟨rfl, hb⟩
          replace hc := hc.below hb
          replace hB := hB.trans (hb.mono hB.size)
          clear hb
          go_wp2_with fail
          refine (last_yes b 5 (a + 1) s _ hc (by omega)).mono ?_
          rintro e w' ⟨rfl, hb⟩
          replace hc := hc.below hb
          replace hB := hB.trans (hb.mono hB.size)
          clear hb
          go_wp2_with fail
          go_roundw
          case rel => exact ⟨k + 1, a + 1, s, by omega, by omega, by go_num, by omega, by omega, by omega, by omega, hc, hB⟩
          case measure => simp [intOf]; omega
      · have hd2 : decide ((k : Int) < 100) = false := by simp; omega
        go_wp2_with fail
        go_ret
        exact Ret.of hB
    · have hd : decide ((k : Int) < (m : Int)) = false := by simp; omega
      go_wp2_with fail
      go_ret
      exact Ret.of hB

def NobRel (w : World) (i : Value) (W : World) : Prop := ∃ k : Nat, k ≤ 2 ∧ i = .int .i64 k ∧ Has W w.heap.size [.int .i64 0, .int .i64 0, .int .i64 0] ∧ Has W (w.heap.size + 1) [.pointer none, .pointer (some ⟨w.heap.size, 0, none⟩)] ∧ Below w.heap.size w W
def NobIn (w : World) (n : Int) (i : Value) (W : World) : Prop := ∃ k : Nat, (k : Int) ≤ n % 4 ∧ i = .int .i64 k ∧ Has W w.heap.size [.int .i64 0, .int .i64 0, .int .i64 0] ∧ Has W (w.heap.size + 1) [.pointer none, .pointer (some ⟨w.heap.size, 0, none⟩)] ∧ Below w.heap.size w W
set_option maxRecDepth 100000 in
set_option maxHeartbeats 2000000 in
theorem nobody_walk (n : Int) (hn0 : 0 ≤ n) (hn1 : n ≤ 255) (w : World) : Calls Try.prog 6 #[.int .u8 n] w (Ret (.bool true) w) := by
  go_enter Try.func6, Try.ntmps6
  go_wp2_with fail
  refine wp_re (fun W => Has W w.heap.size [.int .i64 0, .int .i64 0, .int .i64 0] ∧ Has W (w.heap.size + 1) [.pointer none, .pointer (some ⟨w.heap.size, 0, none⟩)] ∧ Below w.heap.size w W) ⟨(Has.new _ _ _).alloc _, Has.newAt (by simp), outA (outA (Below.refl _ _) _) _⟩ ?_
  rintro W ⟨h0, h1, hB⟩ x
  have hR : NobRel w (.int .i64 0) x.w := ⟨0, by omega, rfl, h0.ext x, h1.ext x, x.out hB⟩
  clear h0 h1 hB
  generalize x.w = wx at *
  go_loopw [5] (fun i wr => NobRel w i wr) (fun i _ => (2 - intOf i).toNat)
  case atStart => exact hR
  case round =>
    clear hR
    obtain ⟨k, hk, rfl, h0, h1, hB⟩ := hrel
    obtain ⟨wo, rfl⟩ : ∃ wo : World, wo = wr := ⟨_, rfl⟩
    have p0 := h1.here 0 _ rfl
    have p1 := h1.here 1 _ rfl
    obtain rfl | rfl | rfl : k = 0 ∨ k = 1 ∨ k = 2 := by omega
    · go_wp2_with fail
      go_loopw [7] (fun j wq => NobIn w n j wq) (fun j _ => (n % 4 - intOf j).toNat)
      case atStart => exact ⟨0, by omega, rfl, h0, h1, hB⟩
      case round =>
        clear h0 h1 hB
        obtain ⟨j, hj, rfl, h0, h1, hB⟩ := hrel
        have q0 : (0 : Int) ≤ (j : Int) := Int.natCast_nonneg _
        by_cases hj2 : (j : Int) < n % 4
        · go_wp2_with fail
          refine (next_nil _).mono ?_
          rintro e w' ⟨rfl, hb⟩
          replace h0 := h0.below hb
          replace h1 := h1.below hb
          replace hB := hB.trans (hb.mono hB.size)
          clear hb
          go_wp2_with fail
          go_roundw
          case rel => (first | exact ⟨j + 1, by omega, by go_num, h0, h1, hB⟩ | ((repeat apply Exists.intro); exact ⟨⟨j + 1, by omega, by first | rfl | go_num, h0, h1, hB⟩, rfl⟩))
          case measure => simp [intOf]; omega
        · go_wp2_with fail
          refine (next_nil _).mono ?_
          rintro e w' ⟨rfl, hb⟩
          replace h0 := h0.below hb
          replace h1 := h1.below hb
          replace hB := hB.trans (hb.mono hB.size)
          clear hb
          go_wp2_with fail
          refine (now_nil _).mono ?_
          rintro e w' ⟨rfl, hb⟩
          replace h0 := h0.below hb
          replace h1 := h1.below hb
          replace hB := hB.trans (hb.mono hB.size)
          clear hb
          go_wp2_with fail
          refine (stamp_nil _).mono ?_
          rintro e w' ⟨rfl, hb⟩
          replace h0 := h0.below hb
          replace h1 := h1.below hb
          replace hB := hB.trans (hb.mono hB.size)
          clear hb
          go_wp2_with fail
          refine (last_nil _).mono ?_
          rintro e w' ⟨rfl, hb⟩
          replace h0 := h0.below hb
          replace h1 := h1.below hb
          replace hB := hB.trans (hb.mono hB.size)
          clear hb
          go_wp2_with fail
          refine (left_nil _).mono ?_
          rintro e w' ⟨rfl, hb⟩
          replace h0 := h0.below hb
          replace h1 := h1.below hb
          replace hB := hB.trans (hb.mono hB.size)
          clear hb
          go_wp2_with fail
          refine (full_nil _).mono ?_
          rintro e w' ⟨rfl, hb⟩
          replace h0 := h0.below hb
          replace h1 := h1.below hb
          replace hB := hB.trans (hb.mono hB.size)
          clear hb
          go_wp2_with fail
          refine (fork_nil _).mono ?_
          rintro e w' ⟨rfl, hb⟩
          replace h0 := h0.below hb
          replace h1 := h1.below hb
          replace hB := hB.trans (hb.mono hB.size)
          clear hb
          go_wp2_with fail
          go_roundw
          case rel => first | exact ⟨1, by omega, by go_num, h0, h1, hB⟩ | ((repeat apply Exists.intro); exact ⟨⟨1, by omega, by first | rfl | go_num, h0, h1, hB⟩, rfl⟩)
          case measure => simp [intOf]
    · go_wp2_with fail
      go_loopw [7] (fun j wq => NobIn w n j wq) (fun j _ => (n % 4 - intOf j).toNat)
      case atStart => exact ⟨0, by omega, rfl, h0, h1, hB⟩
      case round =>
        clear h0 h1 hB
        obtain ⟨j, hj, rfl, h0, h1, hB⟩ := hrel
        have q0 : (0 : Int) ≤ (j : Int) := Int.natCast_nonneg _
        by_cases hj2 : (j : Int) < n % 4
        · go_wp2_with fail
          refine (next_no w.heap.size 0 0 0 _ h0 (by omega)).mono ?_
          rintro e w' ⟨rfl, hb⟩
          replace h0 := h0.below hb
          replace h1 := h1.below hb
          replace hB := hB.trans (hb.mono hB.size)
          clear hb
          go_wp2_with fail
          go_roundw
          case rel => (first | exact ⟨j + 1, by omega, by go_num, h0, h1, hB⟩ | ((repeat apply Exists.intro); exact ⟨⟨j + 1, by omega, by first | rfl | go_num, h0, h1, hB⟩, rfl⟩))
          case measure => simp [intOf]; omega
        · go_wp2_with fail
          refine (next_no w.heap.size 0 0 0 _ h0 (by omega)).mono ?_
          rintro e w' ⟨rfl, hb⟩
          replace h0 := h0.below hb
          replace h1 := h1.below hb
          replace hB := hB.trans (hb.mono hB.size)
          clear hb
          go_wp2_with fail
          refine (now_no w.heap.size 0 0 0 _ h0 (by omega)).mono ?_
          rintro e w' ⟨rfl, hb⟩
          replace h0 := h0.below hb
          replace h1 := h1.below hb
          replace hB := hB.trans (hb.mono hB.size)
          clear hb
          go_wp2_with fail
          refine (stamp_no w.heap.size 0 0 0 _ h0 (by omega)).mono ?_
          rintro e w' ⟨rfl, hb⟩
          replace h0 := h0.below hb
          replace h1 := h1.below hb
          replace hB := hB.trans (hb.mono hB.size)
          clear hb
          go_wp2_with fail
          refine (last_no w.heap.size 0 0 0 _ h0 (by omega)).mono ?_
          rintro e w' ⟨rfl, hb⟩
          replace h0 := h0.below hb
          replace h1 := h1.below hb
          replace hB := hB.trans (hb.mono hB.size)
          clear hb
          go_wp2_with fail
          refine (left_no w.heap.size 0 0 0 _ h0 (by omega)).mono ?_
          rintro e w' ⟨rfl, hb⟩
          replace h0 := h0.below hb
          replace h1 := h1.below hb
          replace hB := hB.trans (hb.mono hB.size)
          clear hb
          go_wp2_with fail
          refine (full_no w.heap.size 0 0 0 _ h0 (by omega)).mono ?_
          rintro e w' ⟨rfl, hb⟩
          replace h0 := h0.below hb
          replace h1 := h1.below hb
          replace hB := hB.trans (hb.mono hB.size)
          clear hb
          go_wp2_with fail
          refine (fork_no w.heap.size 0 0 0 _ h0 (by omega)).mono ?_
          rintro e w' ⟨rfl, hb⟩
          replace h0 := h0.below hb
          replace h1 := h1.below hb
          replace hB := hB.trans (hb.mono hB.size)
          clear hb
          go_wp2_with fail
          go_roundw
          case rel => first | exact ⟨2, by omega, by go_num, h0, h1, hB⟩ | ((repeat apply Exists.intro); exact ⟨⟨2, by omega, by first | rfl | go_num, h0, h1, hB⟩, rfl⟩)
          case measure => simp [intOf]
    · go_wp2_with fail
      refine (awake_any _).mono ?_
      rintro e w' ⟨rfl, hb⟩
      replace h0 := h0.below hb
      replace h1 := h1.below hb
      replace hB := hB.trans (hb.mono hB.size)
      clear hb
      go_wp2_with fail
      go_ret
      exact Ret.of hB

end Clk
end Go.Proofs.Ytgpholoonjglfaa
