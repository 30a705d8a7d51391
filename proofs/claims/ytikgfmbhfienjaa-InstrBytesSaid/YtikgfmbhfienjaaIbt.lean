/- InstrBytes: the law's plain function is true. -/
import Derived.Test.YtikgfmbhfienjaaIbd
namespace Go.Proofs.Ytikgfmbhfienjaa
open Go.RowKit
namespace Ev
set_option linter.unusedVariables false
namespace Ib
theorem cut_is {L : List Int} {n c N v w : Nat} {a0 a1 a2 a3 : Int} (hb : ∀ i, i < L.length → 0 ≤ L.getD i 0 ∧ L.getD i 0 ≤ 255) (hv : v ≤ L.length) (hw : v ≤ w) (h20 : v ≤ 1000) (hN : 2000 ≤ N)
    (ho : ∀ x, ((instr_Encode a0 a1 a2 a3 N).bind fun r => match r with
      | .r0 y2_0 => (ref10_Encode a0 a1 a2 a3 N).bind fun r => match r with
        | .r0 => some (.inl (.h1m0 v w y2_0 : law10_InstrBytesX))
        | .r1 y3_0 => some (.inl (.h1m1 v w y2_0 y3_0 : law10_InstrBytesX))
      | .r1 y2_0 => (ref10_Encode a0 a1 a2 a3 N).bind fun r => match r with
        | .r0 => some (.inl (.h1m2 v w y2_0 : law10_InstrBytesX))
        | .r1 y3_0 => some (.inl (.h1m3 v w y2_0 y3_0 : law10_InstrBytesX))) = some x → law10_InstrBytesIn a0 a1 a2 a3 L n c N = some x) : law10_InstrBytes a0 a1 a2 a3 L n c N = some (.r0 true) := by
  obtain ⟨k, hk⟩ : ∃ k, N = k + 1 := ⟨N - 1, by omega⟩
  have D := dec_is hb hv h20 hw hN
  rcases enc_is a0 a1 a2 a3 hN with ⟨p1, p2⟩ | ⟨M, p1, p2⟩
  · refine (goM_in (ho _ (bind_to p1 <| bind_to p2 rfl))).trans ?_
    refine iter_up (n := 0 + 1) (by omega) (iter_done ?_)
    show law10_InstrBytes_h1m0 a0 a1 a2 a3 L n c N v w 100 = _
    unfold law10_InstrBytes_h1m0
    rcases D with ⟨z, q1, q2⟩ | ⟨A, B, C, p, q, r, q1, q2, q3⟩
    · exact bind_to q1 <| bind_to q2 <| ite_yes rfl <| ite_yes rfl rfl
    · exact bind_to q1 <| bind_to q2 <| ite_yes rfl <| ite_yes ⟨rfl, rfl, rfl⟩ <| ite_yes q3 <| ite_yes (strB_self _) rfl
  · refine (goM_in (ho _ (bind_to p1 <| bind_to p2 rfl))).trans ?_
    refine iter_up (n := 0 + 1) (by omega) (iter_done ?_)
    show law10_InstrBytes_h1m3 a0 a1 a2 a3 L n c N v w M M = _
    unfold law10_InstrBytes_h1m3
    rcases D with ⟨z, q1, q2⟩ | ⟨A, B, C, p, q, r, q1, q2, q3⟩
    · exact bind_to q1 <| bind_to q2 <| ite_yes (strB_self _) <| ite_yes rfl rfl
    · exact bind_to q1 <| bind_to q2 <| ite_yes (strB_self _) <| ite_yes ⟨rfl, rfl, rfl⟩ <| ite_yes q3 <| ite_yes (strB_self _) rfl
theorem runs {L : List Int} {c N : Nat} {a0 a1 a2 a3 : Int} (hb : ∀ i, i < L.length → 0 ≤ L.getD i 0 ∧ L.getD i 0 ≤ 255) (hc : L.length ≤ c) (hN : 2000 ≤ N) : law10_InstrBytes a0 a1 a2 a3 L L.length c N = some (.r0 true) := by
  by_cases h : 20 < L.length
  · refine cut_is (v := 20) (w := c) hb (by omega) (by omega) (by omega) hN (fun x hx => ?_)
    unfold law10_InstrBytesIn
    exact ite_yes (by omega) <| ite_yes (by omega) hx
  · refine cut_is (v := L.length) (w := c) hb (by omega) (by omega) (by omega) hN (fun x hx => ?_)
    unfold law10_InstrBytesIn
    exact ite_no (by omega) hx
theorem runs2 {N : Nat} {a0 a1 a2 a3 : Int} (hN : 2000 ≤ N) : law10_InstrBytes_2 a0 a1 a2 a3 N = some (.r0 true) := by
  rcases enc_is a0 a1 a2 a3 hN with ⟨p1, p2⟩ | ⟨M, p1, p2⟩
  · refine (goM_in (x := .h1m0 100) (bind_to p1 <| bind_to p2 rfl)).trans ?_
    exact iter_up (n := 0 + 1) (by omega) (iter_done rfl)
  · refine (goM_in (x := .h1m3 M M) (bind_to p1 <| bind_to p2 rfl)).trans ?_
    refine iter_up (n := 0 + 1) (by omega) (iter_done ?_)
    show law10_InstrBytes_2_h1m3 a0 a1 a2 a3 N M M = _
    unfold law10_InstrBytes_2_h1m3
    exact bind_to rfl <| bind_to rfl <| ite_yes (strB_self _) rfl
end Ib
end Ev
end Go.Proofs.Ytikgfmbhfienjaa
