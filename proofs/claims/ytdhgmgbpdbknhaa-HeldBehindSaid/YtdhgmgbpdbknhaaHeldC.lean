/- Has and Add of package held. -/
import Derived.Test.YtdhgmgbpdbknhaaHeldB
import Derived.WalkMore
namespace Go.Proofs.Ytdhgmgbpdbknhaa
open Go.ChangeShapes Go.WideShapes Go.ChangeAt Go.RowKit
namespace Held


/-- What Has answers. -/
def HasSpec (xs : List (Int × Int)) (k r : Int) (f : Bool) : Prop := (f = true ∧ ∃ (i : Nat) (p : Int × Int), xs[i]? = some p ∧ p.1 = k ∧ r = p.2) ∨ (f = false ∧ r = 0 ∧ ∀ (j : Nat) (q : Int × Int), xs[j]? = some q → q.1 ≠ k)
def HasPost (xs : List (Int × Int)) (k : Int) (w : World) (e : Ending) (w' : World) : Prop := ∃ r f, e = .returned (.tuple #[.int .i64 r, .bool f]) ∧ HasSpec xs k r f ∧ Below w.heap.size w w'
def HasRel (xs : List (Int × Int)) (k : Int) (w : World) (vv fv iv : Value) (W : World) : Prop := vv = .int .i64 0 ∧ fv = .bool false ∧ Below w.heap.size w W ∧
  ((iv = .int .i64 (-1) ∧ ∀ (j : Nat) (q : Int × Int), xs[j]? = some q → q.1 ≠ k) ∨ ∃ m : Nat, m < xs.length ∧ iv = .int .i64 m ∧ ∀ (j : Nat) (q : Int × Int), m < j → xs[j]? = some q → q.1 ≠ k)
set_option maxRecDepth 100000 in
theorem has_any (base b : Nat) (v : Value) (xs : List (Int × Int)) (k : Int) (w : World) (h : At base w b v xs) (hn : xs.length ≤ 1000) : Calls Try.prog 14 #[.pointer (some ⟨b, 0, none⟩), .int .i64 k] w (HasPost xs k w) := by
  go_enter Try.func14, Try.ntmps14
  go_wp2_with fail
  go_step3
  go_wp2_with fail
  refine (live_yes b v _ h.has).mono ?_
  rintro e w1 ⟨rfl, hb⟩
  have h1 := h.below hb
  obtain ⟨A, c, hve, hc, hm⟩ := h1.row.shape
  subst hve
  have c1 := h1.has.here 1 _ rfl
  have hlt := h1.has.lt
  have hw : wrap64 ((xs.length : Int) - 1) = (xs.length : Int) - 1 := IntWalk.wrap64_in _ ⟨by omega, by omega⟩
  go_wp2_with fail
  go_step3
  go_wp2_with fail
  clear c1 hlt
  go_loopw [6, 7, 8] (fun vv fv iv W => HasRel xs k w vv fv iv W) (fun _ _ iv _ => (intOf iv + 1).toNat)
  case atStart =>
    refine ⟨rfl, rfl, hb, ?_⟩
    rcases hx : xs.length with _ | m
    · have : xs = [] := List.eq_nil_of_length_eq_zero hx
      subst this
      exact Or.inl ⟨by simp, by simp⟩
    · refine Or.inr ⟨m, by omega, by simp, fun j q hj hq => ?_⟩
      have := (List.getElem?_eq_some_iff.1 hq).1
      omega
  case round =>
    clear h1 hb hw
    obtain ⟨rfl, rfl, hB, ⟨rfl, hno⟩ | ⟨m, hm1, rfl, hno⟩⟩ := hrel
    · go_wp2_with fail
      rw [Exit.noGoto_ret]
      exact bodyPost_ret (v := .tuple #[.int .i64 0, .bool false]) (by simp [results, Try.results14, go_sem]) rfl ⟨0, false, rfl, Or.inr ⟨rfl, rfl, hno⟩, hB⟩
    · have q : (0 : Int) ≤ (m : Int) := Int.natCast_nonneg _
      obtain ⟨p, hp⟩ : ∃ p, xs[m]? = some p := ⟨_, List.getElem?_eq_getElem hm1⟩
      have hB2 := hB
      obtain ⟨g, c', hve, hc', hg, k0, k1⟩ := (h.below hB).row.at_ m p hp
      obtain ⟨rfl, _, rfl⟩ : A = some ⟨g, 0, none⟩ ∧ xs.length = xs.length ∧ c = c' := by injection hve with a b c; exact ⟨a, b, c⟩
      have c1 := (h.below hB).has.here 1 _ rfl
      have hlt := (h.below hB).has.lt
      have hmI : (m : Int) < (xs.length : Int) := by omega
      have HP := Lib.hid hp
      clear hve hp
      by_cases he : p.1 = k
      · have he' : decide (p.1 = k) = true := by simp [he]
        go_wp2_with fail
        exact bodyPost_ret (v := .tuple #[.int .i64 p.2, .bool true]) (by simp [results, Try.results14, go_sem]) rfl ⟨p.2, true, rfl, Or.inl ⟨rfl, m, p, HP.out, he, rfl⟩, outA hB _⟩
      · have he' : decide (p.1 = k) = false := by simp [he]
        go_wp2_with fail
        refine ⟨⟨rfl, rfl, outA hB _, ?_⟩, by simp [intOf] <;> omega⟩
        have hno' : ∀ (j : Nat) (q : Int × Int), m ≤ j → xs[j]? = some q → q.1 ≠ k := fun j q hj hq => by
          rcases (by omega : m < j ∨ j = m) with h2 | h2
          · exact hno j q h2 hq
          · subst h2
            rw [HP.out] at hq
            injection hq with hq
            subst hq
            exact he
        rcases m with _ | m
        · exact Or.inl ⟨by simp, fun j q hq => hno' j q (Nat.zero_le _) hq⟩
        · exact Or.inr ⟨m, by omega, by simp, fun j q hj hq => hno' j q hj hq⟩

theorem Pushed.from {base b : Nat} {v r r' : Value} {xs : List (Int × Int)} {w w1 w2 : World} {e : Ending} (hb1 : Below w.heap.size w w1) (hp : Pushed base b v xs r' w1 e w2) : Pushed base b v xs r w (.returned r) w2 := by
  obtain ⟨_, v', ha, hk, hl⟩ := hp
  exact ⟨rfl, v', ha, ⟨hk.os.trans hb1.os, hk.tape.trans hb1.tape, hk.output.trans hb1.output, Nat.le_trans hb1.size hk.size, fun k hk1 h1 h2 => (hk.block k (Nat.lt_of_lt_of_le hk1 hb1.size) h1 h2).trans (hb1.block k hk1)⟩, fun g hg => (hl g hg).imp id (Nat.le_trans hb1.size)⟩
set_option maxRecDepth 100000 in
theorem add_yes (base b : Nat) (v : Value) (xs : List (Int × Int)) (k z : Int) (w : World) (hbs : base ≤ w.heap.size) (h : At base w b v xs) (hn : xs.length ≤ 1000) (hk0 : 0 ≤ k) (hk1 : k < 1024) (hz0 : 0 ≤ z) (hz1 : z ≤ 2199023255552) (hno : ∀ (j : Nat) (q : Int × Int), xs[j]? = some q → q.1 ≠ k) :
    Calls Try.prog 12 #[.pointer (some ⟨b, 0, none⟩), .int .i64 k, .int .i64 z] w (Pushed base b v (xs ++ [(k, z)]) (.int .i64 0) w) := by
  go_enter Try.func12, Try.ntmps12
  go_wp2_with fail
  refine (live_yes b v _ h.has).mono ?_
  rintro e w1 ⟨rfl, hb⟩
  have h1 := h.below hb
  go_wp2_with fail
  all_goals try (exfalso; omega)
  refine (has_any base b v xs k _ h1 hn).mono ?_
  rintro e w2 ⟨r, f, rfl, hs, hb2⟩
  obtain rfl : f = false := by
    rcases hs with ⟨_, i, p, hp, he, _⟩ | ⟨hf, _⟩
    · exact absurd he (hno i p hp)
    · exact hf
  have h2 := h1.below hb2
  have hB := hb.trans (hb2.mono hb.size)
  have hlt := h2.has.lt
  go_wp2_with fail
  refine (push_any base b v xs k z _ (Nat.le_trans hbs hB.size) h2 hn).mono ?_
  rintro e w3 hp
  obtain rfl := hp.1
  go_wp2_with fail
  go_ret
  exact Pushed.from hB hp
set_option maxRecDepth 100000 in
theorem add_dup (base b : Nat) (v : Value) (xs : List (Int × Int)) (k z : Int) (w : World) (h : At base w b v xs) (hn : xs.length ≤ 1000) (hk0 : 0 ≤ k) (hk1 : k < 1024) (hz0 : 0 ≤ z) (hz1 : z ≤ 2199023255552) (hyes : ∃ (j : Nat) (q : Int × Int), xs[j]? = some q ∧ q.1 = k) :
    Calls Try.prog 12 #[.pointer (some ⟨b, 0, none⟩), .int .i64 k, .int .i64 z] w (Ret (.int .i64 80) w) := by
  go_enter Try.func12, Try.ntmps12
  go_wp2_with fail
  refine (live_yes b v _ h.has).mono ?_
  rintro e w1 ⟨rfl, hb⟩
  have h1 := h.below hb
  go_wp2_with fail
  all_goals try (exfalso; omega)
  refine (has_any base b v xs k _ h1 hn).mono ?_
  rintro e w2 ⟨r, f, rfl, hs, hb2⟩
  obtain rfl : f = true := by
    rcases hs with ⟨hf, _⟩ | ⟨_, _, hno⟩
    · exact hf
    · obtain ⟨j, q, hq, he⟩ := hyes
      exact absurd he (hno j q hq)
  have hB := hb.trans (hb2.mono hb.size)
  go_wp2_with fail
  go_ret
  exact Ret.of hB

end Held
end Go.Proofs.Ytdhgmgbpdbknhaa
