/- CmEnds, CmOldest, CmRing. -/
import Derived.Test.YtaopipfdbbiiaaaCmA
namespace Go.Proofs.Ytaopipfdbbiiaaa
open Go.ChangeShapes Go.WideShapes Go.ChangeAt Go.RowKit
namespace Cm


theorem drewn {B : Nat} {a w : World} (h : Below B a w) {n : Nat} : Below B a (w.drewN n) := ⟨h.os, h.tape, h.output, h.size, h.block⟩

def EndsRel (w : World) (t : Int) (i : Value) (W : World) : Prop := ∃ k : Nat, (k : Int) ≤ t ∧ i = .int .i64 k ∧ Below w.heap.size w W
theorem ends_walk (a b : Int) (f : Bool) (t : Int) (h0 : 0 ≤ t) (h1 : t ≤ 255) (w : World) : Calls Try.prog 5 #[.int .i64 a, .int .i64 b, .bool f, .int .u8 t] w (Ret (.bool true) w) := by
  go_enter Try.func5, Try.ntmps5
  go_wp2_with fail
  go_loopw [9] (fun i wr => EndsRel w t i wr) (fun i _ => (t - intOf i).toNat)
  case atStart => exact ⟨0, by omega, rfl, Below.refl _ _⟩
  case round =>
    obtain ⟨k, hk, rfl, hB⟩ := hrel
    have q : (0 : Int) ≤ (k : Int) := Int.natCast_nonneg _
    have hd : decide ((k : Int) ≤ 300) = true := by simp; omega
    by_cases hlt : (k : Int) < t
    · go_wp2_with fail
      refine (decide_c 2 a b f k t 1 (by simp [dec, hlt]) _).mono ?_
      rintro e w' ⟨rfl, hb⟩
      replace hB := hB.trans (hb.mono hB.size)
      clear hb
      go_wp2_with fail
      go_roundw
      case rel => exact ⟨k + 1, by omega, by go_num, hB⟩
      case measure => simp [intOf]; omega
    · obtain rfl : t = (k : Int) := by omega
      go_wp2_with fail
      refine (decide_c 2 a b f k k 3 (by simp [dec]) _).mono ?_
      rintro e w' ⟨rfl, hb⟩
      replace hB := hB.trans (hb.mono hB.size)
      clear hb
      go_wp2_with fail
      refine (decide_c 2 a b f k k 3 (by simp [dec]) _).mono ?_
      rintro e w' ⟨rfl, hb⟩
      replace hB := hB.trans (hb.mono hB.size)
      clear hb
      go_wp2_with fail
      refine (awake_any _).mono ?_
      rintro e w' ⟨rfl, hb⟩
      replace hB := hB.trans (hb.mono hB.size)
      clear hb
      go_wp2_with fail
      go_ret
      exact Ret.of hB

def OldRel (w : World) (z : Nat → Int) (n : Nat) (kv iv : Value) (W : World) : Prop := ∃ k i : Nat, i ≤ n ∧ (k < i ∨ k = 0 ∧ i = 0) ∧ kv = .int .i64 k ∧ iv = .int .i64 i ∧ Below w.heap.size w W ∧
  (∀ i', i' < i → ∀ j, j < i' → z i' ≠ z j) ∧ ∀ i', i' < i → i' = k ∨ z k < z i'
def InRel (w : World) (z : Nat → Int) (i : Nat) (jv : Value) (W : World) : Prop := ∃ j : Nat, j ≤ i ∧ jv = .int .i64 j ∧ Below w.heap.size w W ∧ ∀ j', j' < j → z i ≠ z j'
def Old2 (w : World) (n : Nat) (jv : Value) (W : World) : Prop := ∃ j : Nat, j ≤ n ∧ jv = .int .i64 j ∧ Below w.heap.size w W
theorem dis_step {z : Nat → Int} {i : Nat} (h : ∀ i', i' < i → ∀ j, j < i' → z i' ≠ z j) (hi : ∀ j, j < i → z i ≠ z j) : ∀ i', i' < i + 1 → ∀ j, j < i' → z i' ≠ z j := by
  intro i' hi' j hj
  rcases (by omega : i' < i ∨ i' = i) with h1 | h1
  · exact h i' h1 j hj
  · subst h1; exact hi j hj

theorem oldest_m (A : Option Addr) (m c : Nat) (z : Nat → Int) (w : World) (hc : m ≤ c) (_hcm : c ≤ 9223372036854775807) (hn : (m : Int) ≤ 40) (hz : 0 < m → ∃ b o, A = some ⟨b, o, none⟩ ∧ b < w.heap.size ∧ ∀ i, i < m → w.cell? ⟨b, o + i, none⟩ = some (.int .i64 (z i))) :
    Calls Try.prog 6 #[.slice A m c] w (Ret (.bool true) w) := by
  go_enter Try.func6, Try.ntmps6
  go_wp2_with fail
  go_loopw [4, 5] (fun k i wr => OldRel w z m k i wr) (fun _ i _ => m - (intOf i).toNat)
  case atStart => exact ⟨0, 0, by omega, by omega, rfl, rfl, Below.refl _ _, by omega, by omega⟩
  case round =>
    obtain ⟨k, i, hi, hki, rfl, rfl, hB, hdis, hmin⟩ := hrel
    have q : (0 : Int) ≤ (i : Int) := Int.natCast_nonneg _
    have q1 : (0 : Int) ≤ (k : Int) := Int.natCast_nonneg _
    by_cases hlt : i < m
    · have hd : decide ((i : Int) < ((m : Nat) : Int)) = true := by simp; omega
      have hltI : (i : Int) < ((m : Nat) : Int) := by omega
      obtain ⟨b0, o0, rfl, hb0, hcell⟩ := hz (by omega)
      have hci := (hB.cell (p := ⟨b0, o0 + i, none⟩) hb0).trans (hcell i (by omega))
      go_wp2_with fail
      go_loopw [6] (fun j wr => InRel w z i j wr) (fun j _ => i - (intOf j).toNat)
      case atStart => exact ⟨0, by omega, rfl, hB, by omega⟩
      case round =>
        clear hB hci
        obtain ⟨j, hj, rfl, hB, hne⟩ := hrel
        have q2 : (0 : Int) ≤ (j : Int) := Int.natCast_nonneg _
        have hci := (hB.cell (p := ⟨b0, o0 + i, none⟩) hb0).trans (hcell i (by omega))
        by_cases hlt2 : j < i
        · have hd2 : decide ((j : Int) < (i : Int)) = true := by simp; omega
          have hj1 : (j : Int) < ((m : Nat) : Int) := by omega
          have hcj := (hB.cell (p := ⟨b0, o0 + j, none⟩) hb0).trans (hcell j (by omega))
          by_cases he : z i = z j
          · have he' : decide (z i = z j) = true := by simp [he]
            go_wp2_with fail
            go_quiet (fail)
            go_wp2_with fail
            refine (awake_any _).mono ?_
            rintro e w' ⟨rfl, hb⟩
            replace hB := Below.trans (drewn hB) (hb.mono (drewn hB).size)
            clear hb
            go_wp2_with fail
            go_ret
            exact Ret.of hB
          · have he' : decide (z i = z j) = false := by simp [he]
            go_wp2_with fail
            go_quiet (fail)
            go_wp2_with fail
            go_roundw
            case rel => exact ⟨j + 1, by omega, by go_num, drewn hB, fun j' hj' => by
              rcases (by omega : j' < j ∨ j' = j) with h | h
              · exact hne j' h
              · subst h; exact he⟩
            case measure => simp [intOf]; omega
        · have hd2 : decide ((j : Int) < (i : Int)) = false := by simp; omega
          obtain rfl : j = i := by omega
          have hk1 : (k : Int) < ((m : Nat) : Int) := by omega
          have hck := (hB.cell (p := ⟨b0, o0 + k, none⟩) hb0).trans (hcell k (by omega))
          by_cases he : z j < z k
          · have he' : decide (z j < z k) = true := by simp [he]
            go_wp2_with fail
            go_quiet (fail)
            go_wp2_with fail
            go_roundw
            case rel => exact ⟨j, j + 1, by omega, by omega, rfl, by go_num, drewn hB, dis_step hdis hne, fun i' hi' => by
              rcases (by omega : i' < j ∨ i' = j) with h | h
              · exact Or.inr (by rcases hmin i' h with e | e; (subst e; exact he); omega)
              · exact Or.inl h⟩
            case measure => simp [intOf]; omega
          · have he' : decide (z j < z k) = false := by simp; omega
            go_wp2_with fail
            go_quiet (fail)
            go_wp2_with fail
            go_roundw
            case rel => exact ⟨k, j + 1, by omega, by omega, rfl, by go_num, drewn hB, dis_step hdis hne, fun i' hi' => by
              rcases (by omega : i' < j ∨ i' = j) with h | h
              · exact hmin i' h
              · subst h
                by_cases hik : i' = k
                · exact Or.inl hik
                · exact Or.inr (by have := hne k (by omega); omega)⟩
            case measure => simp [intOf]; omega
    · have hd : decide ((i : Int) < ((m : Nat) : Int)) = false := by simp; omega
      obtain rfl : i = m := by omega
      go_wp2_with fail
      go_loopw [7] (fun j wr => Old2 w i j wr) (fun j _ => i - (intOf j).toNat)
      case atStart => exact ⟨0, by omega, rfl, hB⟩
      case round =>
        clear hB
        obtain ⟨j, hj, rfl, hB⟩ := hrel
        have q2 : (0 : Int) ≤ (j : Int) := Int.natCast_nonneg _
        by_cases hlt : j < i
        · have hd3 : decide ((j : Int) < (i : Int)) = true := by simp; omega
          have hltI : (j : Int) < (i : Int) := by omega
          have hkI : (k : Int) < (i : Int) := by omega
          obtain ⟨b0, o0, rfl, hb0, hcell⟩ := hz (by omega)
          have hck := (hB.cell (p := ⟨b0, o0 + k, none⟩) hb0).trans (hcell k (by omega))
          have hcj := (hB.cell (p := ⟨b0, o0 + j, none⟩) hb0).trans (hcell j (by omega))
          have hbw : b0 < wr.heap.size := Nat.lt_of_lt_of_le hb0 hB.size
          by_cases hjk : j = k
          · have he' : decide ((j : Int) = (k : Int)) = true := by simp; omega
            go_wp2_with fail
            refine wp_cl fun x => ?_
            have fk := x.all b0 (o0 + k) _ hbw hck
            have fj := x.all b0 (o0 + j) _ hbw hcj
            refine region_cl (by kernel_rfl) (by kernel_rfl) ?_
            repeat (go_big_quiet_step (fail))
            refine wpQuiet_nil ?_
            rintro w' ⟨y, rfl⟩
            clear fk fj
            go_wp2_with fail
            go_roundw
            case rel => exact ⟨j + 1, by omega, by go_num, y.out hB⟩
            case measure => simp [intOf]; omega
          · have he' : ((j : Int) != (k : Int)) = true := by simp; omega
            have hlt3 : z k < z j := by rcases hmin j (by omega) with e | e <;> omega
            have v1 : dec 1 (z k) (z j) false 0 0 = 2 := by simp [dec, hlt3]
            have v2 : dec 1 (z j) (z k) false 0 0 = 3 := by simp [dec]; omega
            have V1 := Lib.hid v1
            have V2 := Lib.hid v2
            clear v1 v2
            go_wp2_with fail
            refine wp_cl fun x => ?_
            have fk := x.all b0 (o0 + k) _ hbw hck
            have fj := x.all b0 (o0 + j) _ hbw hcj
            refine region_cl (by kernel_rfl) (by kernel_rfl) ?_
            repeat (go_big_quiet_step (first | (go_at_call 9; with_reducible exact calls_cl (decide_c 1 (z k) (z j) false 0 0 2 V1.out _)) | (go_at_call 9; with_reducible exact calls_cl (decide_c 1 (z j) (z k) false 0 0 3 V2.out _))))
            refine wpQuiet_nil ?_
            rintro w' ⟨y, rfl⟩
            clear fk fj
            go_wp2_with fail
            go_roundw
            case rel => exact ⟨j + 1, by omega, by go_num, y.out hB⟩
            case measure => simp [intOf]; omega
        · have hd3 : decide ((j : Int) < (i : Int)) = false := by simp; omega
          go_wp2_with fail
          refine (awake_any _).mono ?_
          rintro e w' ⟨rfl, hb⟩
          replace hB := hB.trans (hb.mono hB.size)
          clear hb
          go_wp2_with fail
          go_ret
          exact Ret.of hB

theorem oldest_40 (A : Option Addr) (m c : Nat) (z : Nat → Int) (w : World) (hc : m ≤ c) (_hcm : c ≤ 9223372036854775807) (hn : (40 : Int) < (m : Int)) (hz : 0 < m → ∃ b o, A = some ⟨b, o, none⟩ ∧ b < w.heap.size ∧ ∀ i, i < m → w.cell? ⟨b, o + i, none⟩ = some (.int .i64 (z i))) :
    Calls Try.prog 6 #[.slice A m c] w (Ret (.bool true) w) := by
  have hcap : (40 : Nat) ≤ c := by omega
  go_enter Try.func6, Try.ntmps6
  go_wp2_with fail
  go_loopw [4, 5] (fun k i wr => OldRel w z 40 k i wr) (fun _ i _ => 40 - (intOf i).toNat)
  case atStart => exact ⟨0, 0, by omega, by omega, rfl, rfl, Below.refl _ _, by omega, by omega⟩
  case round =>
    obtain ⟨k, i, hi, hki, rfl, rfl, hB, hdis, hmin⟩ := hrel
    have q : (0 : Int) ≤ (i : Int) := Int.natCast_nonneg _
    have q1 : (0 : Int) ≤ (k : Int) := Int.natCast_nonneg _
    by_cases hlt : i < 40
    · have hd : decide ((i : Int) < (40 : Int)) = true := by simp; omega
      have hltI : (i : Int) < (40 : Int) := by omega
      obtain ⟨b0, o0, rfl, hb0, hcell⟩ := hz (by omega)
      have hci := (hB.cell (p := ⟨b0, o0 + i, none⟩) hb0).trans (hcell i (by omega))
      go_wp2_with fail
      go_loopw [6] (fun j wr => InRel w z i j wr) (fun j _ => i - (intOf j).toNat)
      case atStart => exact ⟨0, by omega, rfl, hB, by omega⟩
      case round =>
        clear hB hci
        obtain ⟨j, hj, rfl, hB, hne⟩ := hrel
        have q2 : (0 : Int) ≤ (j : Int) := Int.natCast_nonneg _
        have hci := (hB.cell (p := ⟨b0, o0 + i, none⟩) hb0).trans (hcell i (by omega))
        by_cases hlt2 : j < i
        · have hd2 : decide ((j : Int) < (i : Int)) = true := by simp; omega
          have hj1 : (j : Int) < (40 : Int) := by omega
          have hcj := (hB.cell (p := ⟨b0, o0 + j, none⟩) hb0).trans (hcell j (by omega))
          by_cases he : z i = z j
          · have he' : decide (z i = z j) = true := by simp [he]
            go_wp2_with fail
            go_quiet (fail)
            go_wp2_with fail
            refine (awake_any _).mono ?_
            rintro e w' ⟨rfl, hb⟩
            replace hB := Below.trans (drewn hB) (hb.mono (drewn hB).size)
            clear hb
            go_wp2_with fail
            go_ret
            exact Ret.of hB
          · have he' : decide (z i = z j) = false := by simp [he]
            go_wp2_with fail
            go_quiet (fail)
            go_wp2_with fail
            go_roundw
            case rel => exact ⟨j + 1, by omega, by go_num, drewn hB, fun j' hj' => by
              rcases (by omega : j' < j ∨ j' = j) with h | h
              · exact hne j' h
              · subst h; exact he⟩
            case measure => simp [intOf]; omega
        · have hd2 : decide ((j : Int) < (i : Int)) = false := by simp; omega
          obtain rfl : j = i := by omega
          have hk1 : (k : Int) < (40 : Int) := by omega
          have hck := (hB.cell (p := ⟨b0, o0 + k, none⟩) hb0).trans (hcell k (by omega))
          by_cases he : z j < z k
          · have he' : decide (z j < z k) = true := by simp [he]
            go_wp2_with fail
            go_quiet (fail)
            go_wp2_with fail
            go_roundw
            case rel => exact ⟨j, j + 1, by omega, by omega, rfl, by go_num, drewn hB, dis_step hdis hne, fun i' hi' => by
              rcases (by omega : i' < j ∨ i' = j) with h | h
              · exact Or.inr (by rcases hmin i' h with e | e; (subst e; exact he); omega)
              · exact Or.inl h⟩
            case measure => simp [intOf]; omega
          · have he' : decide (z j < z k) = false := by simp; omega
            go_wp2_with fail
            go_quiet (fail)
            go_wp2_with fail
            go_roundw
            case rel => exact ⟨k, j + 1, by omega, by omega, rfl, by go_num, drewn hB, dis_step hdis hne, fun i' hi' => by
              rcases (by omega : i' < j ∨ i' = j) with h | h
              · exact hmin i' h
              · subst h
                by_cases hik : i' = k
                · exact Or.inl hik
                · exact Or.inr (by have := hne k (by omega); omega)⟩
            case measure => simp [intOf]; omega
    · have hd : decide ((i : Int) < (40 : Int)) = false := by simp; omega
      obtain rfl : i = 40 := by omega
      go_wp2_with fail
      go_loopw [7] (fun j wr => Old2 w 40 j wr) (fun j _ => 40 - (intOf j).toNat)
      case atStart => exact ⟨0, by omega, rfl, hB⟩
      case round =>
        clear hB
        obtain ⟨j, hj, rfl, hB⟩ := hrel
        have q2 : (0 : Int) ≤ (j : Int) := Int.natCast_nonneg _
        by_cases hlt : j < 40
        · have hd3 : decide ((j : Int) < (40 : Int)) = true := by simp; omega
          have hltI : (j : Int) < (40 : Int) := by omega
          have hkI : (k : Int) < (40 : Int) := by omega
          obtain ⟨b0, o0, rfl, hb0, hcell⟩ := hz (by omega)
          have hck := (hB.cell (p := ⟨b0, o0 + k, none⟩) hb0).trans (hcell k (by omega))
          have hcj := (hB.cell (p := ⟨b0, o0 + j, none⟩) hb0).trans (hcell j (by omega))
          have hbw : b0 < wr.heap.size := Nat.lt_of_lt_of_le hb0 hB.size
          by_cases hjk : j = k
          · have he' : decide ((j : Int) = (k : Int)) = true := by simp; omega
            go_wp2_with fail
            refine wp_cl fun x => ?_
            have fk := x.all b0 (o0 + k) _ hbw hck
            have fj := x.all b0 (o0 + j) _ hbw hcj
            refine region_cl (by kernel_rfl) (by kernel_rfl) ?_
            repeat (go_big_quiet_step (fail))
            refine wpQuiet_nil ?_
            rintro w' ⟨y, rfl⟩
            clear fk fj
            go_wp2_with fail
            go_roundw
            case rel => exact ⟨j + 1, by omega, by go_num, y.out hB⟩
            case measure => simp [intOf]; omega
          · have he' : ((j : Int) != (k : Int)) = true := by simp; omega
            have hlt3 : z k < z j := by rcases hmin j (by omega) with e | e <;> omega
            have v1 : dec 1 (z k) (z j) false 0 0 = 2 := by simp [dec, hlt3]
            have v2 : dec 1 (z j) (z k) false 0 0 = 3 := by simp [dec]; omega
            have V1 := Lib.hid v1
            have V2 := Lib.hid v2
            clear v1 v2
            go_wp2_with fail
            refine wp_cl fun x => ?_
            have fk := x.all b0 (o0 + k) _ hbw hck
            have fj := x.all b0 (o0 + j) _ hbw hcj
            refine region_cl (by kernel_rfl) (by kernel_rfl) ?_
            repeat (go_big_quiet_step (first | (go_at_call 9; with_reducible exact calls_cl (decide_c 1 (z k) (z j) false 0 0 2 V1.out _)) | (go_at_call 9; with_reducible exact calls_cl (decide_c 1 (z j) (z k) false 0 0 3 V2.out _))))
            refine wpQuiet_nil ?_
            rintro w' ⟨y, rfl⟩
            clear fk fj
            go_wp2_with fail
            go_roundw
            case rel => exact ⟨j + 1, by omega, by go_num, y.out hB⟩
            case measure => simp [intOf]; omega
        · have hd3 : decide ((j : Int) < (40 : Int)) = false := by simp; omega
          go_wp2_with fail
          refine (awake_any _).mono ?_
          rintro e w' ⟨rfl, hb⟩
          replace hB := hB.trans (hb.mono hB.size)
          clear hb
          go_wp2_with fail
          go_ret
          exact Ret.of hB

end Cm
end Go.Proofs.Ytaopipfdbbiiaaa
