/- CmEnds, CmOldest, CmRing. -/
import Derived.Test.YtaopipfdbbiiaaaCmB
namespace Go.Proofs.Ytaopipfdbbiiaaa
open Go.ChangeShapes Go.WideShapes Go.ChangeAt Go.RowKit
namespace Cm


def RingRel (w : World) (z : Nat → Int) (n : Nat) (iv : Value) (W : World) : Prop := ∃ i : Nat, i ≤ n ∧ iv = .int .i64 i ∧ Below w.heap.size w W ∧ (∀ i', i' < i → ∀ j, j < i' → z i' ≠ z j)
def Ring2 (w : World) (z : Nat → Int) (n : Nat) (gv jv : Value) (W : World) : Prop := ∃ (j : Nat) (g : Bool), j ≤ n ∧ gv = .bool g ∧ jv = .int .i64 j ∧ Below w.heap.size w W ∧ (g = true ∨ 2 ≤ n ∧ ∀ j', j' < j → z j' < z ((j' + 1) % n))
theorem ring_no {z : Nat → Int} {n : Nat} (h : 2 ≤ n) : ¬ ∀ j, j < n → z j < z ((j + 1) % n) := by
  intro hz
  have up : ∀ k, k + 1 < n → z 0 < z (k + 1) := by
    intro k
    induction k with
    | zero => intro h1; have := hz 0 (by omega); rwa [Nat.mod_eq_of_lt (by omega)] at this
    | succ k ih => intro h1; have h2 := hz (k + 1) (by omega); rw [Nat.mod_eq_of_lt (by omega)] at h2; have := ih (by omega); omega
  have h1 := up (n - 2) (by omega)
  have h2 := hz (n - 1) (by omega)
  have e : n - 1 + 1 = n := by omega
  rw [e, Nat.mod_self] at h2
  have e2 : n - 2 + 1 = n - 1 := by omega
  rw [e2] at h1
  omega

set_option maxHeartbeats 1000000 in
theorem ring_m (A : Option Addr) (m c : Nat) (z : Nat → Int) (w : World) (hc : m ≤ c) (_hcm : c ≤ 9223372036854775807) (hn : (m : Int) ≤ 20) (hz : 0 < m → ∃ b o, A = some ⟨b, o, none⟩ ∧ b < w.heap.size ∧ ∀ i, i < m → w.cell? ⟨b, o + i, none⟩ = some (.int .i64 (z i))) :
    Calls Try.prog 4 #[.slice A m c] w (Ret (.bool true) w) := by
  go_enter Try.func4, Try.ntmps4
  go_wp2_with fail
  go_loopw [4] (fun i wr => RingRel w z m i wr) (fun i _ => m - (intOf i).toNat)
  case atStart => exact ⟨0, by omega, rfl, Below.refl _ _, by omega⟩
  case round =>
    obtain ⟨i, hi, rfl, hB, hdis⟩ := hrel
    have q : (0 : Int) ≤ (i : Int) := Int.natCast_nonneg _
    by_cases hlt : i < m
    · have hd : decide ((i : Int) < ((m : Nat) : Int)) = true := by simp; omega
      have hltI : (i : Int) < ((m : Nat) : Int) := by omega
      obtain ⟨b0, o0, rfl, hb0, hcell⟩ := hz (by omega)
      go_wp2_with fail
      go_loopw [5] (fun j wr => InRel w z i j wr) (fun j _ => i - (intOf j).toNat)
      case atStart => exact ⟨0, by omega, rfl, hB, by omega⟩
      case round =>
        clear hB
        obtain ⟨j, hj, rfl, hB, hne⟩ := hrel
        have q2 : (0 : Int) ≤ (j : Int) := Int.natCast_nonneg _
        have hci := (hB.cell (p := ⟨b0, o0 + i, none⟩) hb0).trans (hcell i (by omega))
        by_cases hlt2 : j < i
        · have hd2 : decide ((j : Int) < (i : Int)) = true := by simp; omega
          have hj1 : (j : Int) < ((m : Nat) : Int) := by omega
          have hcj := (hB.cell (p := ⟨b0, o0 + j, none⟩) hb0).trans (hcell j (by omega))
          by_cases he : z i = z j
          · have he' : decide (z i = z j) = true := by simp [he]
            go_wp2_with fail
            go_quiet (fail)
            go_wp2_with fail
            refine (awake_any _).mono ?_
            rintro e w' ⟨rfl, hb⟩
            replace hB := Below.trans (drewn hB) (hb.mono (drewn hB).size)
            clear hb
            go_wp2_with fail
            go_ret
            exact Ret.of hB
          · have he' : decide (z i = z j) = false := by simp [he]
            go_wp2_with fail
            go_quiet (fail)
            by_cases hord : z i < z j
            · skip
              have v1 : dec 1 (z i) (z j) false 0 0 = 2 := by simp [dec]; omega
              have v2 : dec 1 (z j) (z i) false 0 0 = 3 := by simp [dec]; omega
              have V1 := Lib.hid v1
              have V2 := Lib.hid v2
              clear v1 v2
              go_wp2_with fail
              refine wp_re (fun W => Below w.heap.size w W ∧ W.cell? ⟨b0, o0 + i, none⟩ = some (.int .i64 (z i)) ∧ W.cell? ⟨b0, o0 + j, none⟩ = some (.int .i64 (z j))) ⟨drewn hB, by simpa [go_sem] using hci, by simpa [go_sem] using hcj⟩ ?_
              clear hB hci hcj
              rintro W ⟨hB, hci, hcj⟩ x
              have hbw : b0 < W.heap.size := Nat.lt_of_lt_of_le hb0 hB.size
              have fk := x.all b0 (o0 + i) _ hbw hci
              have fj := x.all b0 (o0 + j) _ hbw hcj
              refine region_cl (by kernel_rfl) (by kernel_rfl) ?_
              repeat (go_big_quiet_step ((go_at_call 9; with_reducible exact calls_cl (decide_c 1 (z i) (z j) false 0 0 2 V1.out _))))
              refine wpQuiet_nil ?_
              rintro w' ⟨y1, rfl⟩
              go_wp2_with fail
              refine region_cl (by kernel_rfl) (by kernel_rfl) ?_
              repeat (go_big_quiet_step ((go_at_call 9; with_reducible exact calls_cl (decide_c 1 (z j) (z i) false 0 0 3 V2.out _))))
              refine wpQuiet_nil ?_
              rintro w' ⟨y2, rfl⟩
              go_wp2_with fail
              go_roundw
              case rel => exact ⟨j + 1, by omega, by go_num, y2.out hB, fun j' hj' => by
                rcases (by omega : j' < j ∨ j' = j) with h | h
                · exact hne j' h
                · subst h; exact he⟩
              case measure => simp [intOf]; omega
            · skip
              have v1 : dec 1 (z i) (z j) false 0 0 = 3 := by simp [dec]; omega
              have v2 : dec 1 (z j) (z i) false 0 0 = 2 := by simp [dec]; omega
              have V1 := Lib.hid v1
              have V2 := Lib.hid v2
              clear v1 v2
              go_wp2_with fail
              refine wp_re (fun W => Below w.heap.size w W ∧ W.cell? ⟨b0, o0 + i, none⟩ = some (.int .i64 (z i)) ∧ W.cell? ⟨b0, o0 + j, none⟩ = some (.int .i64 (z j))) ⟨drewn hB, by simpa [go_sem] using hci, by simpa [go_sem] using hcj⟩ ?_
              clear hB hci hcj
              rintro W ⟨hB, hci, hcj⟩ x
              have hbw : b0 < W.heap.size := Nat.lt_of_lt_of_le hb0 hB.size
              have fk := x.all b0 (o0 + i) _ hbw hci
              have fj := x.all b0 (o0 + j) _ hbw hcj
              refine region_cl (by kernel_rfl) (by kernel_rfl) ?_
              repeat (go_big_quiet_step ((go_at_call 9; with_reducible exact calls_cl (decide_c 1 (z i) (z j) false 0 0 3 V1.out _))))
              refine wpQuiet_nil ?_
              rintro w' ⟨y1, rfl⟩
              go_wp2_with fail
              refine region_cl (by kernel_rfl) (by kernel_rfl) ?_
              repeat (go_big_quiet_step ((go_at_call 9; with_reducible exact calls_cl (decide_c 1 (z j) (z i) false 0 0 2 V2.out _))))
              refine wpQuiet_nil ?_
              rintro w' ⟨y2, rfl⟩
              go_wp2_with fail
              go_roundw
              case rel => exact ⟨j + 1, by omega, by go_num, y2.out hB, fun j' hj' => by
                rcases (by omega : j' < j ∨ j' = j) with h | h
                · exact hne j' h
                · subst h; exact he⟩
              case measure => simp [intOf]; omega
        · have hd2 : decide ((j : Int) < (i : Int)) = false := by simp; omega
          obtain rfl : j = i := by omega
          go_wp2_with fail
          go_roundw
          case rel => exact ⟨j + 1, by omega, by go_num, hB, dis_step hdis hne⟩
          case measure => simp [intOf]; omega
    · have hd : decide ((i : Int) < ((m : Nat) : Int)) = false := by simp; omega
      obtain rfl : i = m := by omega
      go_wp2_with fail
      go_loopw [8, 9] (fun g j wr => Ring2 w z i g j wr) (fun _ j _ => i - (intOf j).toNat)
      case atStart => exact ⟨0, decide ((i : Int) < 2), by omega, rfl, rfl, hB, by
        by_cases h : i < 2
        · exact Or.inl (by simp; omega)
        · exact Or.inr ⟨by omega, by omega⟩⟩
      case round =>
        clear hB
        obtain ⟨j, g, hj, rfl, rfl, hB, hgs⟩ := hrel
        have q2 : (0 : Int) ≤ (j : Int) := Int.natCast_nonneg _
        by_cases hlt : j < i
        · have hd3 : decide ((j : Int) < (i : Int)) = true := by simp; omega
          have hltI : (j : Int) < (i : Int) := by omega
          obtain ⟨b0, o0, rfl, hb0, hcell⟩ := hz (by omega)
          have hcj := (hB.cell (p := ⟨b0, o0 + j, none⟩) hb0).trans (hcell j (by omega))
          have hbw : b0 < wr.heap.size := Nat.lt_of_lt_of_le hb0 hB.size
          by_cases hjn : j + 1 = i
          · skip
            have hrem : ((j : Int) + 1).tmod (i : Int) = (0 : Int) := by
              have e : (j : Int) + 1 = (i : Int) := by omega
              rw [e, Int.tmod_self]
            have hmod : (j + 1) % i = 0 := by rw [hjn, Nat.mod_self]
            have hnx0 : (0 : Int) ≤ (0 : Int) := by omega
            have hnx1 : (0 : Int) < (i : Int) := by omega
            have hcn := (hB.cell (p := ⟨b0, o0 + 0, none⟩) hb0).trans (hcell (0) (by omega))
            by_cases hord : z j < z (0)
            · have v1 : dec 1 (z j) (z (0)) false 0 0 = 2 := by simp [dec, hord]
              have V1 := Lib.hid v1
              clear v1
              go_wp2_with fail
              refine wp_cl fun x => ?_
              have fj := x.all b0 (o0 + j) _ hbw hcj
              have fn := x.all b0 o0 _ hbw (by simpa using hcn)
              refine region_cl (by kernel_rfl) (by kernel_rfl) ?_
              repeat (go_big_quiet_step ((go_at_call 9; with_reducible exact calls_cl (decide_c 1 (z j) (z (0)) false 0 0 2 V1.out _))))
              refine wpQuiet_nil ?_
              rintro w' ⟨y, rfl⟩
              clear fj fn
              go_wp2_with fail
              go_roundw
              case rel => first | exact ⟨j + 1, g, by omega, rfl, by go_num, y.out hB, hgs.imp id fun hh => ⟨hh.1, fun j' hj' => by exact (by rcases (by omega : j' < j ∨ j' = j) with h | h; (exact hh.2 j' h); (subst h; rw [hmod]; exact hord))⟩⟩ | ((repeat apply Exists.intro); exact ⟨⟨j + 1, g, by omega, rfl, by go_num, y.out hB, hgs.imp id fun hh => ⟨hh.1, fun j' hj' => by exact (by rcases (by omega : j' < j ∨ j' = j) with h | h; (exact hh.2 j' h); (subst h; rw [hmod]; exact hord))⟩⟩, rfl⟩)
              case measure => simp [intOf]; omega
            · have v1 : dec 1 (z j) (z (0)) false 0 0 = 3 := by simp [dec]; omega
              have V1 := Lib.hid v1
              clear v1
              go_wp2_with fail
              refine wp_cl fun x => ?_
              have fj := x.all b0 (o0 + j) _ hbw hcj
              have fn := x.all b0 o0 _ hbw (by simpa using hcn)
              refine region_cl (by kernel_rfl) (by kernel_rfl) ?_
              repeat (go_big_quiet_step ((go_at_call 9; with_reducible exact calls_cl (decide_c 1 (z j) (z (0)) false 0 0 3 V1.out _))))
              refine wpQuiet_nil ?_
              rintro w' ⟨y, rfl⟩
              clear fj fn
              go_wp2_with fail
              go_roundw
              case rel => first | exact ⟨j + 1, true, by omega, rfl, by go_num, y.out hB, Or.inl rfl⟩ | ((repeat apply Exists.intro); exact ⟨⟨j + 1, true, by omega, rfl, by go_num, y.out hB, Or.inl rfl⟩, rfl⟩)
              case measure => simp [intOf]; omega
          · skip
            have hrem : ((j : Int) + 1).tmod (i : Int) = ((j : Int) + 1) := by
              exact Int.tmod_eq_of_lt (by omega) (by omega)
            have hmod : (j + 1) % i = j + 1 := by exact Nat.mod_eq_of_lt (by omega)
            have hnx0 : (0 : Int) ≤ ((j : Int) + 1) := by omega
            have hnx1 : ((j : Int) + 1) < (i : Int) := by omega
            have hcn := (hB.cell (p := ⟨b0, o0 + j + 1, none⟩) hb0).trans (hcell (j + 1) (by omega))
            by_cases hord : z j < z (j + 1)
            · have v1 : dec 1 (z j) (z (j + 1)) false 0 0 = 2 := by simp [dec, hord]
              have V1 := Lib.hid v1
              clear v1
              go_wp2_with fail
              refine wp_cl fun x => ?_
              have fj := x.all b0 (o0 + j) _ hbw hcj
              have fn := x.all b0 (o0 + (j + 1)) _ hbw hcn
              refine region_cl (by kernel_rfl) (by kernel_rfl) ?_
              repeat (go_big_quiet_step ((go_at_call 9; with_reducible exact calls_cl (decide_c 1 (z j) (z (j + 1)) false 0 0 2 V1.out _))))
              refine wpQuiet_nil ?_
              rintro w' ⟨y, rfl⟩
              clear fj fn
              go_wp2_with fail
              go_roundw
              case rel => first | exact ⟨j + 1, g, by omega, rfl, by go_num, y.out hB, hgs.imp id fun hh => ⟨hh.1, fun j' hj' => by exact (by rcases (by omega : j' < j ∨ j' = j) with h | h; (exact hh.2 j' h); (subst h; rw [hmod]; exact hord))⟩⟩ | ((repeat apply Exists.intro); exact ⟨⟨j + 1, g, by omega, rfl, by go_num, y.out hB, hgs.imp id fun hh => ⟨hh.1, fun j' hj' => by exact (by rcases (by omega : j' < j ∨ j' = j) with h | h; (exact hh.2 j' h); (subst h; rw [hmod]; exact hord))⟩⟩, rfl⟩)
              case measure => simp [intOf]; omega
            · have v1 : dec 1 (z j) (z (j + 1)) false 0 0 = 3 := by simp [dec]; omega
              have V1 := Lib.hid v1
              clear v1
              go_wp2_with fail
              refine wp_cl fun x => ?_
              have fj := x.all b0 (o0 + j) _ hbw hcj
              have fn := x.all b0 (o0 + (j + 1)) _ hbw hcn
              refine region_cl (by kernel_rfl) (by kernel_rfl) ?_
              repeat (go_big_quiet_step ((go_at_call 9; with_reducible exact calls_cl (decide_c 1 (z j) (z (j + 1)) false 0 0 3 V1.out _))))
              refine wpQuiet_nil ?_
              rintro w' ⟨y, rfl⟩
              clear fj fn
              go_wp2_with fail
              go_roundw
              case rel => first | exact ⟨j + 1, true, by omega, rfl, by go_num, y.out hB, Or.inl rfl⟩ | ((repeat apply Exists.intro); exact ⟨⟨j + 1, true, by omega, rfl, by go_num, y.out hB, Or.inl rfl⟩, rfl⟩)
              case measure => simp [intOf]; omega
        · have hd3 : decide ((j : Int) < (i : Int)) = false := by simp; omega
          obtain rfl : j = i := by omega
          cases g
          · exact absurd (hgs.resolve_left (by simp)).2 (ring_no (hgs.resolve_left (by simp)).1)
          · go_wp2_with fail
            refine (awake_any _).mono ?_
            rintro e w' ⟨rfl, hb⟩
            replace hB := hB.trans (hb.mono hB.size)
            clear hb
            go_wp2_with fail
            go_ret
            exact Ret.of hB

set_option maxHeartbeats 1000000 in
theorem ring_20 (A : Option Addr) (m c : Nat) (z : Nat → Int) (w : World) (hc : m ≤ c) (_hcm : c ≤ 9223372036854775807) (hn : (20 : Int) < (m : Int)) (hz : 0 < m → ∃ b o, A = some ⟨b, o, none⟩ ∧ b < w.heap.size ∧ ∀ i, i < m → w.cell? ⟨b, o + i, none⟩ = some (.int .i64 (z i))) :
    Calls Try.prog 4 #[.slice A m c] w (Ret (.bool true) w) := by
  have hcap : (20 : Nat) ≤ c := by omega
  go_enter Try.func4, Try.ntmps4
  go_wp2_with fail
  go_loopw [4] (fun i wr => RingRel w z 20 i wr) (fun i _ => 20 - (intOf i).toNat)
  case atStart => exact ⟨0, by omega, rfl, Below.refl _ _, by omega⟩
  case round =>
    obtain ⟨i, hi, rfl, hB, hdis⟩ := hrel
    have q : (0 : Int) ≤ (i : Int) := Int.natCast_nonneg _
    by_cases hlt : i < 20
    · have hd : decide ((i : Int) < (20 : Int)) = true := by simp; omega
      have hltI : (i : Int) < (20 : Int) := by omega
      obtain ⟨b0, o0, rfl, hb0, hcell⟩ := hz (by omega)
      go_wp2_with fail
      go_loopw [5] (fun j wr => InRel w z i j wr) (fun j _ => i - (intOf j).toNat)
      case atStart => exact ⟨0, by omega, rfl, hB, by omega⟩
      case round =>
        clear hB
        obtain ⟨j, hj, rfl, hB, hne⟩ := hrel
        have q2 : (0 : Int) ≤ (j : Int) := Int.natCast_nonneg _
        have hci := (hB.cell (p := ⟨b0, o0 + i, none⟩) hb0).trans (hcell i (by omega))
        by_cases hlt2 : j < i
        · have hd2 : decide ((j : Int) < (i : Int)) = true := by simp; omega
          have hj1 : (j : Int) < (20 : Int) := by omega
          have hcj := (hB.cell (p := ⟨b0, o0 + j, none⟩) hb0).trans (hcell j (by omega))
          by_cases he : z i = z j
          · have he' : decide (z i = z j) = true := by simp [he]
            go_wp2_with fail
            go_quiet (fail)
            go_wp2_with fail
            refine (awake_any _).mono ?_
            rintro e w' ⟨rfl, hb⟩
            replace hB := Below.trans (drewn hB) (hb.mono (drewn hB).size)
            clear hb
            go_wp2_with fail
            go_ret
            exact Ret.of hB
          · have he' : decide (z i = z j) = false := by simp [he]
            go_wp2_with fail
            go_quiet (fail)
            by_cases hord : z i < z j
            · skip
              have v1 : dec 1 (z i) (z j) false 0 0 = 2 := by simp [dec]; omega
              have v2 : dec 1 (z j) (z i) false 0 0 = 3 := by simp [dec]; omega
              have V1 := Lib.hid v1
              have V2 := Lib.hid v2
              clear v1 v2
              go_wp2_with fail
              refine wp_re (fun W => Below w.heap.size w W ∧ W.cell? ⟨b0, o0 + i, none⟩ = some (.int .i64 (z i)) ∧ W.cell? ⟨b0, o0 + j, none⟩ = some (.int .i64 (z j))) ⟨drewn hB, by simpa [go_sem] using hci, by simpa [go_sem] using hcj⟩ ?_
              clear hB hci hcj
              rintro W ⟨hB, hci, hcj⟩ x
              have hbw : b0 < W.heap.size := Nat.lt_of_lt_of_le hb0 hB.size
              have fk := x.all b0 (o0 + i) _ hbw hci
              have fj := x.all b0 (o0 + j) _ hbw hcj
              refine region_cl (by kernel_rfl) (by kernel_rfl) ?_
              repeat (go_big_quiet_step ((go_at_call 9; with_reducible exact calls_cl (decide_c 1 (z i) (z j) false 0 0 2 V1.out _))))
              refine wpQuiet_nil ?_
              rintro w' ⟨y1, rfl⟩
              go_wp2_with fail
              refine region_cl (by kernel_rfl) (by kernel_rfl) ?_
              repeat (go_big_quiet_step ((go_at_call 9; with_reducible exact calls_cl (decide_c 1 (z j) (z i) false 0 0 3 V2.out _))))
              refine wpQuiet_nil ?_
              rintro w' ⟨y2, rfl⟩
              go_wp2_with fail
              go_roundw
              case rel => exact ⟨j + 1, by omega, by go_num, y2.out hB, fun j' hj' => by
                rcases (by omega : j' < j ∨ j' = j) with h | h
                · exact hne j' h
                · subst h; exact he⟩
              case measure => simp [intOf]; omega
            · skip
              have v1 : dec 1 (z i) (z j) false 0 0 = 3 := by simp [dec]; omega
              have v2 : dec 1 (z j) (z i) false 0 0 = 2 := by simp [dec]; omega
              have V1 := Lib.hid v1
              have V2 := Lib.hid v2
              clear v1 v2
              go_wp2_with fail
              refine wp_re (fun W => Below w.heap.size w W ∧ W.cell? ⟨b0, o0 + i, none⟩ = some (.int .i64 (z i)) ∧ W.cell? ⟨b0, o0 + j, none⟩ = some (.int .i64 (z j))) ⟨drewn hB, by simpa [go_sem] using hci, by simpa [go_sem] using hcj⟩ ?_
              clear hB hci hcj
              rintro W ⟨hB, hci, hcj⟩ x
              have hbw : b0 < W.heap.size := Nat.lt_of_lt_of_le hb0 hB.size
              have fk := x.all b0 (o0 + i) _ hbw hci
              have fj := x.all b0 (o0 + j) _ hbw hcj
              refine region_cl (by kernel_rfl) (by kernel_rfl) ?_
              repeat (go_big_quiet_step ((go_at_call 9; with_reducible exact calls_cl (decide_c 1 (z i) (z j) false 0 0 3 V1.out _))))
              refine wpQuiet_nil ?_
              rintro w' ⟨y1, rfl⟩
              go_wp2_with fail
              refine region_cl (by kernel_rfl) (by kernel_rfl) ?_
              repeat (go_big_quiet_step ((go_at_call 9; with_reducible exact calls_cl (decide_c 1 (z j) (z i) false 0 0 2 V2.out _))))
              refine wpQuiet_nil ?_
              rintro w' ⟨y2, rfl⟩
              go_wp2_with fail
              go_roundw
              case rel => exact ⟨j + 1, by omega, by go_num, y2.out hB, fun j' hj' => by
                rcases (by omega : j' < j ∨ j' = j) with h | h
                · exact hne j' h
                · subst h; exact he⟩
              case measure => simp [intOf]; omega
        · have hd2 : decide ((j : Int) < (i : Int)) = false := by simp; omega
          obtain rfl : j = i := by omega
          go_wp2_with fail
          go_roundw
          case rel => exact ⟨j + 1, by omega, by go_num, hB, dis_step hdis hne⟩
          case measure => simp [intOf]; omega
    · have hd : decide ((i : Int) < (20 : Int)) = false := by simp; omega
      obtain rfl : i = 20 := by omega
      go_wp2_with fail
      go_loopw [8, 9] (fun g j wr => Ring2 w z 20 g j wr) (fun _ j _ => 20 - (intOf j).toNat)
      case atStart => exact ⟨0, decide ((20 : Int) < 2), by omega, rfl, rfl, hB, by
        by_cases h : 20 < 2
        · exact Or.inl (by simp; omega)
        · exact Or.inr ⟨by omega, by omega⟩⟩
      case round =>
        clear hB
        obtain ⟨j, g, hj, rfl, rfl, hB, hgs⟩ := hrel
        have q2 : (0 : Int) ≤ (j : Int) := Int.natCast_nonneg _
        by_cases hlt : j < 20
        · have hd3 : decide ((j : Int) < (20 : Int)) = true := by simp; omega
          have hltI : (j : Int) < (20 : Int) := by omega
          obtain ⟨b0, o0, rfl, hb0, hcell⟩ := hz (by omega)
          have hcj := (hB.cell (p := ⟨b0, o0 + j, none⟩) hb0).trans (hcell j (by omega))
          have hbw : b0 < wr.heap.size := Nat.lt_of_lt_of_le hb0 hB.size
          by_cases hjn : j + 1 = 20
          · skip
            have hrem : ((j : Int) + 1).tmod (20 : Int) = (0 : Int) := by
              have e : (j : Int) + 1 = (20 : Int) := by omega
              rw [e, Int.tmod_self]
            have hmod : (j + 1) % 20 = 0 := by rw [hjn, Nat.mod_self]
            have hnx0 : (0 : Int) ≤ (0 : Int) := by omega
            have hnx1 : (0 : Int) < (20 : Int) := by omega
            have hcn := (hB.cell (p := ⟨b0, o0 + 0, none⟩) hb0).trans (hcell (0) (by omega))
            by_cases hord : z j < z (0)
            · have v1 : dec 1 (z j) (z (0)) false 0 0 = 2 := by simp [dec, hord]
              have V1 := Lib.hid v1
              clear v1
              go_wp2_with fail
              refine wp_cl fun x => ?_
              have fj := x.all b0 (o0 + j) _ hbw hcj
              have fn := x.all b0 o0 _ hbw (by simpa using hcn)
              refine region_cl (by kernel_rfl) (by kernel_rfl) ?_
              repeat (go_big_quiet_step ((go_at_call 9; with_reducible exact calls_cl (decide_c 1 (z j) (z (0)) false 0 0 2 V1.out _))))
              refine wpQuiet_nil ?_
              rintro w' ⟨y, rfl⟩
              clear fj fn
              go_wp2_with fail
              go_roundw
              case rel => first | exact ⟨j + 1, g, by omega, rfl, by go_num, y.out hB, hgs.imp id fun hh => ⟨hh.1, fun j' hj' => by exact (by rcases (by omega : j' < j ∨ j' = j) with h | h; (exact hh.2 j' h); (subst h; rw [hmod]; exact hord))⟩⟩ | ((repeat apply Exists.intro); exact ⟨⟨j + 1, g, by omega, rfl, by go_num, y.out hB, hgs.imp id fun hh => ⟨hh.1, fun j' hj' => by exact (by rcases (by omega : j' < j ∨ j' = j) with h | h; (exact hh.2 j' h); (subst h; rw [hmod]; exact hord))⟩⟩, rfl⟩)
              case measure => simp [intOf]; omega
            · have v1 : dec 1 (z j) (z (0)) false 0 0 = 3 := by simp [dec]; omega
              have V1 := Lib.hid v1
              clear v1
              go_wp2_with fail
              refine wp_cl fun x => ?_
              have fj := x.all b0 (o0 + j) _ hbw hcj
              have fn := x.all b0 o0 _ hbw (by simpa using hcn)
              refine region_cl (by kernel_rfl) (by kernel_rfl) ?_
              repeat (go_big_quiet_step ((go_at_call 9; with_reducible exact calls_cl (decide_c 1 (z j) (z (0)) false 0 0 3 V1.out _))))
              refine wpQuiet_nil ?_
              rintro w' ⟨y, rfl⟩
              clear fj fn
              go_wp2_with fail
              go_roundw
              case rel => first | exact ⟨j + 1, true, by omega, rfl, by go_num, y.out hB, Or.inl rfl⟩ | ((repeat apply Exists.intro); exact ⟨⟨j + 1, true, by omega, rfl, by go_num, y.out hB, Or.inl rfl⟩, rfl⟩)
              case measure => simp [intOf]; omega
          · skip
            have hrem : ((j : Int) + 1).tmod (20 : Int) = ((j : Int) + 1) := by
              exact Int.tmod_eq_of_lt (by omega) (by omega)
            have hmod : (j + 1) % 20 = j + 1 := by exact Nat.mod_eq_of_lt (by omega)
            have hnx0 : (0 : Int) ≤ ((j : Int) + 1) := by omega
            have hnx1 : ((j : Int) + 1) < (20 : Int) := by omega
            have hcn := (hB.cell (p := ⟨b0, o0 + j + 1, none⟩) hb0).trans (hcell (j + 1) (by omega))
            by_cases hord : z j < z (j + 1)
            · have v1 : dec 1 (z j) (z (j + 1)) false 0 0 = 2 := by simp [dec, hord]
              have V1 := Lib.hid v1
              clear v1
              go_wp2_with fail
              refine wp_cl fun x => ?_
              have fj := x.all b0 (o0 + j) _ hbw hcj
              have fn := x.all b0 (o0 + (j + 1)) _ hbw hcn
              refine region_cl (by kernel_rfl) (by kernel_rfl) ?_
              repeat (go_big_quiet_step ((go_at_call 9; with_reducible exact calls_cl (decide_c 1 (z j) (z (j + 1)) false 0 0 2 V1.out _))))
              refine wpQuiet_nil ?_
              rintro w' ⟨y, rfl⟩
              clear fj fn
              go_wp2_with fail
              go_roundw
              case rel => first | exact ⟨j + 1, g, by omega, rfl, by go_num, y.out hB, hgs.imp id fun hh => ⟨hh.1, fun j' hj' => by exact (by rcases (by omega : j' < j ∨ j' = j) with h | h; (exact hh.2 j' h); (subst h; rw [hmod]; exact hord))⟩⟩ | ((repeat apply Exists.intro); exact ⟨⟨j + 1, g, by omega, rfl, by go_num, y.out hB, hgs.imp id fun hh => ⟨hh.1, fun j' hj' => by exact (by rcases (by omega : j' < j ∨ j' = j) with h | h; (exact hh.2 j' h); (subst h; rw [hmod]; exact hord))⟩⟩, rfl⟩)
              case measure => simp [intOf]; omega
            · have v1 : dec 1 (z j) (z (j + 1)) false 0 0 = 3 := by simp [dec]; omega
              have V1 := Lib.hid v1
              clear v1
              go_wp2_with fail
              refine wp_cl fun x => ?_
              have fj := x.all b0 (o0 + j) _ hbw hcj
              have fn := x.all b0 (o0 + (j + 1)) _ hbw hcn
              refine region_cl (by kernel_rfl) (by kernel_rfl) ?_
              repeat (go_big_quiet_step ((go_at_call 9; with_reducible exact calls_cl (decide_c 1 (z j) (z (j + 1)) false 0 0 3 V1.out _))))
              refine wpQuiet_nil ?_
              rintro w' ⟨y, rfl⟩
              clear fj fn
              go_wp2_with fail
              go_roundw
              case rel => first | exact ⟨j + 1, true, by omega, rfl, by go_num, y.out hB, Or.inl rfl⟩ | ((repeat apply Exists.intro); exact ⟨⟨j + 1, true, by omega, rfl, by go_num, y.out hB, Or.inl rfl⟩, rfl⟩)
              case measure => simp [intOf]; omega
        · have hd3 : decide ((j : Int) < (20 : Int)) = false := by simp; omega
          obtain rfl : j = 20 := by omega
          cases g
          · exact absurd (hgs.resolve_left (by simp)).2 (ring_no (hgs.resolve_left (by simp)).1)
          · go_wp2_with fail
            refine (awake_any _).mono ?_
            rintro e w' ⟨rfl, hb⟩
            replace hB := hB.trans (hb.mono hB.size)
            clear hb
            go_wp2_with fail
            go_ret
            exact Ret.of hB

end Cm
end Go.Proofs.Ytaopipfdbbiiaaa
