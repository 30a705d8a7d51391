/- Calls do what the plain functions say. -/
import Derived.Test.YtpgbennpiihajaaKja
namespace Go.Proofs.Ytpgbennpiihajaa
open Go.RowKit
namespace Ev
set_option linter.unusedVariables false
set_option maxRecDepth 100000
noncomputable def Znx (a0 : Int) : Z6 → Value
 | .r0 => Value.agg #[Value.string ⟨#[]⟩, vi (0 : Int), vi (0 : Int), vi (0 : Int)]
 | .r1 => Value.agg #[Value.string ⟨#[99, 111, 110, 115, 116]⟩, vi (1 : Int), vi (6 : Int), vi (0 : Int)]
 | .r2 => Value.agg #[Value.string ⟨#[110, 105, 108]⟩, vi (1 : Int), vi (0 : Int), vi (0 : Int)]
 | .r3 => Value.agg #[Value.string ⟨#[109, 111, 118, 101]⟩, vi (1 : Int), vi (1 : Int), vi (0 : Int)]
 | .r4 => Value.agg #[Value.string ⟨#[97, 100, 100]⟩, vi (1 : Int), vi (1 : Int), vi (1 : Int)]
 | .r5 => Value.agg #[Value.string ⟨#[115, 117, 98]⟩, vi (1 : Int), vi (1 : Int), vi (1 : Int)]
 | .r6 => Value.agg #[Value.string ⟨#[108, 101, 115, 115]⟩, vi (1 : Int), vi (1 : Int), vi (1 : Int)]
 | .r7 => Value.agg #[Value.string ⟨#[101, 113]⟩, vi (1 : Int), vi (1 : Int), vi (1 : Int)]
 | .r8 => Value.agg #[Value.string ⟨#[106, 117, 109, 112]⟩, vi (4 : Int), vi (0 : Int), vi (0 : Int)]
 | .r9 => Value.agg #[Value.string ⟨#[106, 117, 109, 112, 122]⟩, vi (1 : Int), vi (4 : Int), vi (0 : Int)]
 | .r10 => Value.agg #[Value.string ⟨#[114, 111, 111, 116]⟩, vi (1 : Int), vi (0 : Int), vi (0 : Int)]
 | .r11 => Value.agg #[Value.string ⟨#[110, 101, 119]⟩, vi (1 : Int), vi (3 : Int), vi (5 : Int)]
 | .r12 => Value.agg #[Value.string ⟨#[102, 114, 101, 101]⟩, vi (1 : Int), vi (0 : Int), vi (0 : Int)]
 | .r13 => Value.agg #[Value.string ⟨#[103, 101, 116]⟩, vi (1 : Int), vi (1 : Int), vi (2 : Int)]
 | .r14 => Value.agg #[Value.string ⟨#[115, 101, 116]⟩, vi (1 : Int), vi (2 : Int), vi (1 : Int)]
 | .r15 => Value.agg #[Value.string ⟨#[98, 101, 103, 105, 110]⟩, vi (0 : Int), vi (0 : Int), vi (0 : Int)]
 | .r16 => Value.agg #[Value.string ⟨#[101, 108, 115, 101]⟩, vi (0 : Int), vi (0 : Int), vi (0 : Int)]
 | .r17 => Value.agg #[Value.string ⟨#[101, 110, 100]⟩, vi (0 : Int), vi (0 : Int), vi (0 : Int)]
 | .r18 => Value.agg #[Value.string ⟨#[114, 101, 116, 114, 121]⟩, vi (0 : Int), vi (0 : Int), vi (0 : Int)]
 | .r19 => Value.agg #[Value.string ⟨#[101, 109, 105, 116]⟩, vi (1 : Int), vi (0 : Int), vi (0 : Int)]
 | .r20 => Value.agg #[Value.string ⟨#[104, 97, 108, 116]⟩, vi (0 : Int), vi (0 : Int), vi (0 : Int)]
noncomputable def Zmd (a0 : Int) : Z6 → List (Option AObj)
 | .r0 => []
 | .r1 => []
 | .r2 => []
 | .r3 => []
 | .r4 => []
 | .r5 => []
 | .r6 => []
 | .r7 => []
 | .r8 => []
 | .r9 => []
 | .r10 => []
 | .r11 => []
 | .r12 => []
 | .r13 => []
 | .r14 => []
 | .r15 => []
 | .r16 => []
 | .r17 => []
 | .r18 => []
 | .r19 => []
 | .r20 => []

theorem Zpk (a0 : Int) (N : Nat) : Fx Try.prog Z8 Try.f47 [] #[vi a0] (Znx a0) (Zmd a0) (Zay a0 N) := by
 unfold Zay
 refine Zo (fun g0 => ?_) (fun g0 => ?_)
 ·
  exact Zn (r := (.r0 : Z6)) (fu := 4000) (orc := (Zk [(0, true)] [] [] [] [])) (live := []) (u := Value.agg #[Value.string ⟨#[]⟩, vi (0 : Int), vi (0 : Int), vi (0 : Int)]) (bl := []) (ob := [((decide (a0 < (0 : Int))), true)]) (by kernel_rfl) (oY Zh) rfl (by decide) (by rfl) rr trivial
 ·
  refine Zo (fun g1 => ?_) (fun g1 => ?_)
  ·
   exact Zn (r := (.r0 : Z6)) (fu := 4000) (orc := (Zk [(0, false), (1, true)] [] [] [] [])) (live := []) (u := Value.agg #[Value.string ⟨#[]⟩, vi (0 : Int), vi (0 : Int), vi (0 : Int)]) (bl := []) (ob := [((decide (a0 ≥ (21 : Int))), true), ((decide (a0 < (0 : Int))), false)]) (by kernel_rfl) (oY <| oN Zh) rfl (by decide) (by rfl) rr trivial
  ·
   refine Zo (fun g2 => ?_) (fun g2 => ?_)
   ·
    exact Zn (r := (.r0 : Z6)) (fu := 4000) (orc := (Zk [(0, false), (1, false)] [] [(0, 0)] [] [])) (live := []) (u := Value.agg #[Value.string ⟨#[]⟩, vi (0 : Int), vi (0 : Int), vi (0 : Int)]) (bl := []) (ob := [(Nat.blt 0 21, true), (a0 == Int.ofNat 0, true), ((decide (a0 ≥ (21 : Int))), false), ((decide (a0 < (0 : Int))), false)]) (by kernel_rfl) (oB <| Zc (beq_iff_eq.2 (show _ = ((0 : Nat) : Int) from by omega)) <| oN <| oN Zh) rfl (by decide) (by rfl) rr trivial
   ·
    refine Zo (fun g3 => ?_) (fun g3 => ?_)
    ·
     exact Zn (r := (.r1 : Z6)) (fu := 4000) (orc := (Zk [(0, false), (1, false)] [] [(0, 1)] [] [])) (live := []) (u := Value.agg #[Value.string ⟨#[99, 111, 110, 115, 116]⟩, vi (1 : Int), vi (6 : Int), vi (0 : Int)]) (bl := []) (ob := [(Nat.blt 1 21, true), (a0 == Int.ofNat 1, true), ((decide (a0 ≥ (21 : Int))), false), ((decide (a0 < (0 : Int))), false)]) (by kernel_rfl) (oB <| Zc (beq_iff_eq.2 (show _ = ((1 : Nat) : Int) from by omega)) <| oN <| oN Zh) rfl (by decide) (by rfl) rr trivial
    ·
     refine Zo (fun g4 => ?_) (fun g4 => ?_)
     ·
      exact Zn (r := (.r2 : Z6)) (fu := 4000) (orc := (Zk [(0, false), (1, false)] [] [(0, 2)] [] [])) (live := []) (u := Value.agg #[Value.string ⟨#[110, 105, 108]⟩, vi (1 : Int), vi (0 : Int), vi (0 : Int)]) (bl := []) (ob := [(Nat.blt 2 21, true), (a0 == Int.ofNat 2, true), ((decide (a0 ≥ (21 : Int))), false), ((decide (a0 < (0 : Int))), false)]) (by kernel_rfl) (oB <| Zc (beq_iff_eq.2 (show _ = ((2 : Nat) : Int) from by omega)) <| oN <| oN Zh) rfl (by decide) (by rfl) rr trivial
     ·
      refine Zo (fun g5 => ?_) (fun g5 => ?_)
      ·
       exact Zn (r := (.r3 : Z6)) (fu := 4000) (orc := (Zk [(0, false), (1, false)] [] [(0, 3)] [] [])) (live := []) (u := Value.agg #[Value.string ⟨#[109, 111, 118, 101]⟩, vi (1 : Int), vi (1 : Int), vi (0 : Int)]) (bl := []) (ob := [(Nat.blt 3 21, true), (a0 == Int.ofNat 3, true), ((decide (a0 ≥ (21 : Int))), false), ((decide (a0 < (0 : Int))), false)]) (by kernel_rfl) (oB <| Zc (beq_iff_eq.2 (show _ = ((3 : Nat) : Int) from by omega)) <| oN <| oN Zh) rfl (by decide) (by rfl) rr trivial
      ·
       refine Zo (fun g6 => ?_) (fun g6 => ?_)
       ·
        exact Zn (r := (.r4 : Z6)) (fu := 4000) (orc := (Zk [(0, false), (1, false)] [] [(0, 4)] [] [])) (live := []) (u := Value.agg #[Value.string ⟨#[97, 100, 100]⟩, vi (1 : Int), vi (1 : Int), vi (1 : Int)]) (bl := []) (ob := [(Nat.blt 4 21, true), (a0 == Int.ofNat 4, true), ((decide (a0 ≥ (21 : Int))), false), ((decide (a0 < (0 : Int))), false)]) (by kernel_rfl) (oB <| Zc (beq_iff_eq.2 (show _ = ((4 : Nat) : Int) from by omega)) <| oN <| oN Zh) rfl (by decide) (by rfl) rr trivial
       ·
        refine Zo (fun g7 => ?_) (fun g7 => ?_)
        ·
         exact Zn (r := (.r5 : Z6)) (fu := 4000) (orc := (Zk [(0, false), (1, false)] [] [(0, 5)] [] [])) (live := []) (u := Value.agg #[Value.string ⟨#[115, 117, 98]⟩, vi (1 : Int), vi (1 : Int), vi (1 : Int)]) (bl := []) (ob := [(Nat.blt 5 21, true), (a0 == Int.ofNat 5, true), ((decide (a0 ≥ (21 : Int))), false), ((decide (a0 < (0 : Int))), false)]) (by kernel_rfl) (oB <| Zc (beq_iff_eq.2 (show _ = ((5 : Nat) : Int) from by omega)) <| oN <| oN Zh) rfl (by decide) (by rfl) rr trivial
        ·
         refine Zo (fun g8 => ?_) (fun g8 => ?_)
         ·
          exact Zn (r := (.r6 : Z6)) (fu := 4000) (orc := (Zk [(0, false), (1, false)] [] [(0, 6)] [] [])) (live := []) (u := Value.agg #[Value.string ⟨#[108, 101, 115, 115]⟩, vi (1 : Int), vi (1 : Int), vi (1 : Int)]) (bl := []) (ob := [(Nat.blt 6 21, true), (a0 == Int.ofNat 6, true), ((decide (a0 ≥ (21 : Int))), false), ((decide (a0 < (0 : Int))), false)]) (by kernel_rfl) (oB <| Zc (beq_iff_eq.2 (show _ = ((6 : Nat) : Int) from by omega)) <| oN <| oN Zh) rfl (by decide) (by rfl) rr trivial
         ·
          refine Zo (fun g9 => ?_) (fun g9 => ?_)
          ·
           exact Zn (r := (.r7 : Z6)) (fu := 4000) (orc := (Zk [(0, false), (1, false)] [] [(0, 7)] [] [])) (live := []) (u := Value.agg #[Value.string ⟨#[101, 113]⟩, vi (1 : Int), vi (1 : Int), vi (1 : Int)]) (bl := []) (ob := [(Nat.blt 7 21, true), (a0 == Int.ofNat 7, true), ((decide (a0 ≥ (21 : Int))), false), ((decide (a0 < (0 : Int))), false)]) (by kernel_rfl) (oB <| Zc (beq_iff_eq.2 (show _ = ((7 : Nat) : Int) from by omega)) <| oN <| oN Zh) rfl (by decide) (by rfl) rr trivial
          ·
           refine Zo (fun g10 => ?_) (fun g10 => ?_)
           ·
            exact Zn (r := (.r8 : Z6)) (fu := 4000) (orc := (Zk [(0, false), (1, false)] [] [(0, 8)] [] [])) (live := []) (u := Value.agg #[Value.string ⟨#[106, 117, 109, 112]⟩, vi (4 : Int), vi (0 : Int), vi (0 : Int)]) (bl := []) (ob := [(Nat.blt 8 21, true), (a0 == Int.ofNat 8, true), ((decide (a0 ≥ (21 : Int))), false), ((decide (a0 < (0 : Int))), false)]) (by kernel_rfl) (oB <| Zc (beq_iff_eq.2 (show _ = ((8 : Nat) : Int) from by omega)) <| oN <| oN Zh) rfl (by decide) (by rfl) rr trivial
           ·
            refine Zo (fun g11 => ?_) (fun g11 => ?_)
            ·
             exact Zn (r := (.r9 : Z6)) (fu := 4000) (orc := (Zk [(0, false), (1, false)] [] [(0, 9)] [] [])) (live := []) (u := Value.agg #[Value.string ⟨#[106, 117, 109, 112, 122]⟩, vi (1 : Int), vi (4 : Int), vi (0 : Int)]) (bl := []) (ob := [(Nat.blt 9 21, true), (a0 == Int.ofNat 9, true), ((decide (a0 ≥ (21 : Int))), false), ((decide (a0 < (0 : Int))), false)]) (by kernel_rfl) (oB <| Zc (beq_iff_eq.2 (show _ = ((9 : Nat) : Int) from by omega)) <| oN <| oN Zh) rfl (by decide) (by rfl) rr trivial
            ·
             refine Zo (fun g12 => ?_) (fun g12 => ?_)
             ·
              exact Zn (r := (.r10 : Z6)) (fu := 4000) (orc := (Zk [(0, false), (1, false)] [] [(0, 10)] [] [])) (live := []) (u := Value.agg #[Value.string ⟨#[114, 111, 111, 116]⟩, vi (1 : Int), vi (0 : Int), vi (0 : Int)]) (bl := []) (ob := [(Nat.blt 10 21, true), (a0 == Int.ofNat 10, true), ((decide (a0 ≥ (21 : Int))), false), ((decide (a0 < (0 : Int))), false)]) (by kernel_rfl) (oB <| Zc (beq_iff_eq.2 (show _ = ((10 : Nat) : Int) from by omega)) <| oN <| oN Zh) rfl (by decide) (by rfl) rr trivial
             ·
              refine Zo (fun g13 => ?_) (fun g13 => ?_)
              ·
               exact Zn (r := (.r11 : Z6)) (fu := 4000) (orc := (Zk [(0, false), (1, false)] [] [(0, 11)] [] [])) (live := []) (u := Value.agg #[Value.string ⟨#[110, 101, 119]⟩, vi (1 : Int), vi (3 : Int), vi (5 : Int)]) (bl := []) (ob := [(Nat.blt 11 21, true), (a0 == Int.ofNat 11, true), ((decide (a0 ≥ (21 : Int))), false), ((decide (a0 < (0 : Int))), false)]) (by kernel_rfl) (oB <| Zc (beq_iff_eq.2 (show _ = ((11 : Nat) : Int) from by omega)) <| oN <| oN Zh) rfl (by decide) (by rfl) rr trivial
              ·
               refine Zo (fun g14 => ?_) (fun g14 => ?_)
               ·
                exact Zn (r := (.r12 : Z6)) (fu := 4000) (orc := (Zk [(0, false), (1, false)] [] [(0, 12)] [] [])) (live := []) (u := Value.agg #[Value.string ⟨#[102, 114, 101, 101]⟩, vi (1 : Int), vi (0 : Int), vi (0 : Int)]) (bl := []) (ob := [(Nat.blt 12 21, true), (a0 == Int.ofNat 12, true), ((decide (a0 ≥ (21 : Int))), false), ((decide (a0 < (0 : Int))), false)]) (by kernel_rfl) (oB <| Zc (beq_iff_eq.2 (show _ = ((12 : Nat) : Int) from by omega)) <| oN <| oN Zh) rfl (by decide) (by rfl) rr trivial
               ·
                refine Zo (fun g15 => ?_) (fun g15 => ?_)
                ·
                 exact Zn (r := (.r13 : Z6)) (fu := 4000) (orc := (Zk [(0, false), (1, false)] [] [(0, 13)] [] [])) (live := []) (u := Value.agg #[Value.string ⟨#[103, 101, 116]⟩, vi (1 : Int), vi (1 : Int), vi (2 : Int)]) (bl := []) (ob := [(Nat.blt 13 21, true), (a0 == Int.ofNat 13, true), ((decide (a0 ≥ (21 : Int))), false), ((decide (a0 < (0 : Int))), false)]) (by kernel_rfl) (oB <| Zc (beq_iff_eq.2 (show _ = ((13 : Nat) : Int) from by omega)) <| oN <| oN Zh) rfl (by decide) (by rfl) rr trivial
                ·
                 refine Zo (fun g16 => ?_) (fun g16 => ?_)
                 ·
                  exact Zn (r := (.r14 : Z6)) (fu := 4000) (orc := (Zk [(0, false), (1, false)] [] [(0, 14)] [] [])) (live := []) (u := Value.agg #[Value.string ⟨#[115, 101, 116]⟩, vi (1 : Int), vi (2 : Int), vi (1 : Int)]) (bl := []) (ob := [(Nat.blt 14 21, true), (a0 == Int.ofNat 14, true), ((decide (a0 ≥ (21 : Int))), false), ((decide (a0 < (0 : Int))), false)]) (by kernel_rfl) (oB <| Zc (beq_iff_eq.2 (show _ = ((14 : Nat) : Int) from by omega)) <| oN <| oN Zh) rfl (by decide) (by rfl) rr trivial
                 ·
                  refine Zo (fun g17 => ?_) (fun g17 => ?_)
                  ·
                   exact Zn (r := (.r15 : Z6)) (fu := 4000) (orc := (Zk [(0, false), (1, false)] [] [(0, 15)] [] [])) (live := []) (u := Value.agg #[Value.string ⟨#[98, 101, 103, 105, 110]⟩, vi (0 : Int), vi (0 : Int), vi (0 : Int)]) (bl := []) (ob := [(Nat.blt 15 21, true), (a0 == Int.ofNat 15, true), ((decide (a0 ≥ (21 : Int))), false), ((decide (a0 < (0 : Int))), false)]) (by kernel_rfl) (oB <| Zc (beq_iff_eq.2 (show _ = ((15 : Nat) : Int) from by omega)) <| oN <| oN Zh) rfl (by decide) (by rfl) rr trivial
                  ·
                   refine Zo (fun g18 => ?_) (fun g18 => ?_)
                   ·
                    exact Zn (r := (.r16 : Z6)) (fu := 4000) (orc := (Zk [(0, false), (1, false)] [] [(0, 16)] [] [])) (live := []) (u := Value.agg #[Value.string ⟨#[101, 108, 115, 101]⟩, vi (0 : Int), vi (0 : Int), vi (0 : Int)]) (bl := []) (ob := [(Nat.blt 16 21, true), (a0 == Int.ofNat 16, true), ((decide (a0 ≥ (21 : Int))), false), ((decide (a0 < (0 : Int))), false)]) (by kernel_rfl) (oB <| Zc (beq_iff_eq.2 (show _ = ((16 : Nat) : Int) from by omega)) <| oN <| oN Zh) rfl (by decide) (by rfl) rr trivial
                   ·
                    refine Zo (fun g19 => ?_) (fun g19 => ?_)
                    ·
                     exact Zn (r := (.r17 : Z6)) (fu := 4000) (orc := (Zk [(0, false), (1, false)] [] [(0, 17)] [] [])) (live := []) (u := Value.agg #[Value.string ⟨#[101, 110, 100]⟩, vi (0 : Int), vi (0 : Int), vi (0 : Int)]) (bl := []) (ob := [(Nat.blt 17 21, true), (a0 == Int.ofNat 17, true), ((decide (a0 ≥ (21 : Int))), false), ((decide (a0 < (0 : Int))), false)]) (by kernel_rfl) (oB <| Zc (beq_iff_eq.2 (show _ = ((17 : Nat) : Int) from by omega)) <| oN <| oN Zh) rfl (by decide) (by rfl) rr trivial
                    ·
                     refine Zo (fun g20 => ?_) (fun g20 => ?_)
                     ·
                      exact Zn (r := (.r18 : Z6)) (fu := 4000) (orc := (Zk [(0, false), (1, false)] [] [(0, 18)] [] [])) (live := []) (u := Value.agg #[Value.string ⟨#[114, 101, 116, 114, 121]⟩, vi (0 : Int), vi (0 : Int), vi (0 : Int)]) (bl := []) (ob := [(Nat.blt 18 21, true), (a0 == Int.ofNat 18, true), ((decide (a0 ≥ (21 : Int))), false), ((decide (a0 < (0 : Int))), false)]) (by kernel_rfl) (oB <| Zc (beq_iff_eq.2 (show _ = ((18 : Nat) : Int) from by omega)) <| oN <| oN Zh) rfl (by decide) (by rfl) rr trivial
                     ·
                      refine Zo (fun g21 => ?_) (fun g21 => ?_)
                      ·
                       exact Zn (r := (.r19 : Z6)) (fu := 4000) (orc := (Zk [(0, false), (1, false)] [] [(0, 19)] [] [])) (live := []) (u := Value.agg #[Value.string ⟨#[101, 109, 105, 116]⟩, vi (1 : Int), vi (0 : Int), vi (0 : Int)]) (bl := []) (ob := [(Nat.blt 19 21, true), (a0 == Int.ofNat 19, true), ((decide (a0 ≥ (21 : Int))), false), ((decide (a0 < (0 : Int))), false)]) (by kernel_rfl) (oB <| Zc (beq_iff_eq.2 (show _ = ((19 : Nat) : Int) from by omega)) <| oN <| oN Zh) rfl (by decide) (by rfl) rr trivial
                      ·
                       exact Zn (r := (.r20 : Z6)) (fu := 4000) (orc := (Zk [(0, false), (1, false)] [] [(0, 20)] [] [])) (live := []) (u := Value.agg #[Value.string ⟨#[104, 97, 108, 116]⟩, vi (0 : Int), vi (0 : Int), vi (0 : Int)]) (bl := []) (ob := [(Nat.blt 20 21, true), (a0 == Int.ofNat 20, true), ((decide (a0 ≥ (21 : Int))), false), ((decide (a0 < (0 : Int))), false)]) (by kernel_rfl) (oB <| Zc (beq_iff_eq.2 (show _ = ((20 : Nat) : Int) from by omega)) <| oN <| oN Zh) rfl (by decide) (by rfl) rr trivial

theorem Zah (a0 : Int) (N : Nat) (r : Z6) (h : Zay a0 N = some r) : LSpec Try.prog 47 #[vi a0] [] (Znx a0 r) (Zmd a0 r) :=
 ZaB Zax Try.func47 (by kernel_rfl) (by kernel_rfl) (fun r => by cases r <;> exact Zaf _ rfl) (Zpk a0 N) h

noncomputable def Zqy (a0 : Int) (n : Nat) : Zag := .call [] (Value.agg #[Value.string ⟨#[]⟩, vi (0 : Int), vi (0 : Int), vi (0 : Int)]) [] 0
def Zme (A : Array Value) (a0 : Int) (n : Nat) : Prop := Zz Try.prog 47 A [] (Value.agg #[Value.string ⟨#[]⟩, vi (0 : Int), vi (0 : Int), vi (0 : Int)]) [] n 0

theorem Zqz (A : Array Value) (a0 : Int) (N : Nat) (h : Zay a0 N = some (.r0)) (n : Nat) (hA : A = #[vi a0]) (hnd : ([] : List Nat).Nodup) (hlt : ∀ k ∈ ([] : List Nat), k < n) : Zme A a0  n :=
 Z7 hA (LSpec.callL (show LSpec Try.prog 47 #[vi a0] [] (Value.agg #[Value.string ⟨#[]⟩, vi (0 : Int), vi (0 : Int), vi (0 : Int)]) [] from Zah a0 N _ h) [] n [] rfl hnd hlt (show 0 ≤ 0 from by decide) (show ∀ j ∈ ([] : List Nat), j < 0 from by decide) (by rfl) trivial (by rfl) trivial trivial rfl rfl rfl rfl rfl)

noncomputable def Zq0 (a0 : Int) (n : Nat) : Zag := .call [] (Value.agg #[Value.string ⟨#[99, 111, 110, 115, 116]⟩, vi (1 : Int), vi (6 : Int), vi (0 : Int)]) [] 0
def Zmf (A : Array Value) (a0 : Int) (n : Nat) : Prop := Zz Try.prog 47 A [] (Value.agg #[Value.string ⟨#[99, 111, 110, 115, 116]⟩, vi (1 : Int), vi (6 : Int), vi (0 : Int)]) [] n 0

theorem Zq1 (A : Array Value) (a0 : Int) (N : Nat) (h : Zay a0 N = some (.r1)) (n : Nat) (hA : A = #[vi a0]) (hnd : ([] : List Nat).Nodup) (hlt : ∀ k ∈ ([] : List Nat), k < n) : Zmf A a0  n :=
 Z7 hA (LSpec.callL (show LSpec Try.prog 47 #[vi a0] [] (Value.agg #[Value.string ⟨#[99, 111, 110, 115, 116]⟩, vi (1 : Int), vi (6 : Int), vi (0 : Int)]) [] from Zah a0 N _ h) [] n [] rfl hnd hlt (show 0 ≤ 0 from by decide) (show ∀ j ∈ ([] : List Nat), j < 0 from by decide) (by rfl) trivial (by rfl) trivial trivial rfl rfl rfl rfl rfl)

noncomputable def Zq2 (a0 : Int) (n : Nat) : Zag := .call [] (Value.agg #[Value.string ⟨#[110, 105, 108]⟩, vi (1 : Int), vi (0 : Int), vi (0 : Int)]) [] 0
def Zmg (A : Array Value) (a0 : Int) (n : Nat) : Prop := Zz Try.prog 47 A [] (Value.agg #[Value.string ⟨#[110, 105, 108]⟩, vi (1 : Int), vi (0 : Int), vi (0 : Int)]) [] n 0

theorem Zq3 (A : Array Value) (a0 : Int) (N : Nat) (h : Zay a0 N = some (.r2)) (n : Nat) (hA : A = #[vi a0]) (hnd : ([] : List Nat).Nodup) (hlt : ∀ k ∈ ([] : List Nat), k < n) : Zmg A a0  n :=
 Z7 hA (LSpec.callL (show LSpec Try.prog 47 #[vi a0] [] (Value.agg #[Value.string ⟨#[110, 105, 108]⟩, vi (1 : Int), vi (0 : Int), vi (0 : Int)]) [] from Zah a0 N _ h) [] n [] rfl hnd hlt (show 0 ≤ 0 from by decide) (show ∀ j ∈ ([] : List Nat), j < 0 from by decide) (by rfl) trivial (by rfl) trivial trivial rfl rfl rfl rfl rfl)

noncomputable def Zq4 (a0 : Int) (n : Nat) : Zag := .call [] (Value.agg #[Value.string ⟨#[109, 111, 118, 101]⟩, vi (1 : Int), vi (1 : Int), vi (0 : Int)]) [] 0
def Zmh (A : Array Value) (a0 : Int) (n : Nat) : Prop := Zz Try.prog 47 A [] (Value.agg #[Value.string ⟨#[109, 111, 118, 101]⟩, vi (1 : Int), vi (1 : Int), vi (0 : Int)]) [] n 0

theorem Zq5 (A : Array Value) (a0 : Int) (N : Nat) (h : Zay a0 N = some (.r3)) (n : Nat) (hA : A = #[vi a0]) (hnd : ([] : List Nat).Nodup) (hlt : ∀ k ∈ ([] : List Nat), k < n) : Zmh A a0  n :=
 Z7 hA (LSpec.callL (show LSpec Try.prog 47 #[vi a0] [] (Value.agg #[Value.string ⟨#[109, 111, 118, 101]⟩, vi (1 : Int), vi (1 : Int), vi (0 : Int)]) [] from Zah a0 N _ h) [] n [] rfl hnd hlt (show 0 ≤ 0 from by decide) (show ∀ j ∈ ([] : List Nat), j < 0 from by decide) (by rfl) trivial (by rfl) trivial trivial rfl rfl rfl rfl rfl)

noncomputable def Zq6 (a0 : Int) (n : Nat) : Zag := .call [] (Value.agg #[Value.string ⟨#[97, 100, 100]⟩, vi (1 : Int), vi (1 : Int), vi (1 : Int)]) [] 0
def Zmi (A : Array Value) (a0 : Int) (n : Nat) : Prop := Zz Try.prog 47 A [] (Value.agg #[Value.string ⟨#[97, 100, 100]⟩, vi (1 : Int), vi (1 : Int), vi (1 : Int)]) [] n 0

theorem Zq7 (A : Array Value) (a0 : Int) (N : Nat) (h : Zay a0 N = some (.r4)) (n : Nat) (hA : A = #[vi a0]) (hnd : ([] : List Nat).Nodup) (hlt : ∀ k ∈ ([] : List Nat), k < n) : Zmi A a0  n :=
 Z7 hA (LSpec.callL (show LSpec Try.prog 47 #[vi a0] [] (Value.agg #[Value.string ⟨#[97, 100, 100]⟩, vi (1 : Int), vi (1 : Int), vi (1 : Int)]) [] from Zah a0 N _ h) [] n [] rfl hnd hlt (show 0 ≤ 0 from by decide) (show ∀ j ∈ ([] : List Nat), j < 0 from by decide) (by rfl) trivial (by rfl) trivial trivial rfl rfl rfl rfl rfl)

noncomputable def Zq8 (a0 : Int) (n : Nat) : Zag := .call [] (Value.agg #[Value.string ⟨#[115, 117, 98]⟩, vi (1 : Int), vi (1 : Int), vi (1 : Int)]) [] 0
def Zmj (A : Array Value) (a0 : Int) (n : Nat) : Prop := Zz Try.prog 47 A [] (Value.agg #[Value.string ⟨#[115, 117, 98]⟩, vi (1 : Int), vi (1 : Int), vi (1 : Int)]) [] n 0

theorem Zq9 (A : Array Value) (a0 : Int) (N : Nat) (h : Zay a0 N = some (.r5)) (n : Nat) (hA : A = #[vi a0]) (hnd : ([] : List Nat).Nodup) (hlt : ∀ k ∈ ([] : List Nat), k < n) : Zmj A a0  n :=
 Z7 hA (LSpec.callL (show LSpec Try.prog 47 #[vi a0] [] (Value.agg #[Value.string ⟨#[115, 117, 98]⟩, vi (1 : Int), vi (1 : Int), vi (1 : Int)]) [] from Zah a0 N _ h) [] n [] rfl hnd hlt (show 0 ≤ 0 from by decide) (show ∀ j ∈ ([] : List Nat), j < 0 from by decide) (by rfl) trivial (by rfl) trivial trivial rfl rfl rfl rfl rfl)

noncomputable def ZqA (a0 : Int) (n : Nat) : Zag := .call [] (Value.agg #[Value.string ⟨#[108, 101, 115, 115]⟩, vi (1 : Int), vi (1 : Int), vi (1 : Int)]) [] 0
def Zmk (A : Array Value) (a0 : Int) (n : Nat) : Prop := Zz Try.prog 47 A [] (Value.agg #[Value.string ⟨#[108, 101, 115, 115]⟩, vi (1 : Int), vi (1 : Int), vi (1 : Int)]) [] n 0

theorem ZqB (A : Array Value) (a0 : Int) (N : Nat) (h : Zay a0 N = some (.r6)) (n : Nat) (hA : A = #[vi a0]) (hnd : ([] : List Nat).Nodup) (hlt : ∀ k ∈ ([] : List Nat), k < n) : Zmk A a0  n :=
 Z7 hA (LSpec.callL (show LSpec Try.prog 47 #[vi a0] [] (Value.agg #[Value.string ⟨#[108, 101, 115, 115]⟩, vi (1 : Int), vi (1 : Int), vi (1 : Int)]) [] from Zah a0 N _ h) [] n [] rfl hnd hlt (show 0 ≤ 0 from by decide) (show ∀ j ∈ ([] : List Nat), j < 0 from by decide) (by rfl) trivial (by rfl) trivial trivial rfl rfl rfl rfl rfl)

noncomputable def ZqC (a0 : Int) (n : Nat) : Zag := .call [] (Value.agg #[Value.string ⟨#[101, 113]⟩, vi (1 : Int), vi (1 : Int), vi (1 : Int)]) [] 0
def Zml (A : Array Value) (a0 : Int) (n : Nat) : Prop := Zz Try.prog 47 A [] (Value.agg #[Value.string ⟨#[101, 113]⟩, vi (1 : Int), vi (1 : Int), vi (1 : Int)]) [] n 0

theorem ZqD (A : Array Value) (a0 : Int) (N : Nat) (h : Zay a0 N = some (.r7)) (n : Nat) (hA : A = #[vi a0]) (hnd : ([] : List Nat).Nodup) (hlt : ∀ k ∈ ([] : List Nat), k < n) : Zml A a0  n :=
 Z7 hA (LSpec.callL (show LSpec Try.prog 47 #[vi a0] [] (Value.agg #[Value.string ⟨#[101, 113]⟩, vi (1 : Int), vi (1 : Int), vi (1 : Int)]) [] from Zah a0 N _ h) [] n [] rfl hnd hlt (show 0 ≤ 0 from by decide) (show ∀ j ∈ ([] : List Nat), j < 0 from by decide) (by rfl) trivial (by rfl) trivial trivial rfl rfl rfl rfl rfl)

noncomputable def ZqE (a0 : Int) (n : Nat) : Zag := .call [] (Value.agg #[Value.string ⟨#[106, 117, 109, 112]⟩, vi (4 : Int), vi (0 : Int), vi (0 : Int)]) [] 0
def Zmm (A : Array Value) (a0 : Int) (n : Nat) : Prop := Zz Try.prog 47 A [] (Value.agg #[Value.string ⟨#[106, 117, 109, 112]⟩, vi (4 : Int), vi (0 : Int), vi (0 : Int)]) [] n 0

theorem ZqF (A : Array Value) (a0 : Int) (N : Nat) (h : Zay a0 N = some (.r8)) (n : Nat) (hA : A = #[vi a0]) (hnd : ([] : List Nat).Nodup) (hlt : ∀ k ∈ ([] : List Nat), k < n) : Zmm A a0  n :=
 Z7 hA (LSpec.callL (show LSpec Try.prog 47 #[vi a0] [] (Value.agg #[Value.string ⟨#[106, 117, 109, 112]⟩, vi (4 : Int), vi (0 : Int), vi (0 : Int)]) [] from Zah a0 N _ h) [] n [] rfl hnd hlt (show 0 ≤ 0 from by decide) (show ∀ j ∈ ([] : List Nat), j < 0 from by decide) (by rfl) trivial (by rfl) trivial trivial rfl rfl rfl rfl rfl)

noncomputable def ZqG (a0 : Int) (n : Nat) : Zag := .call [] (Value.agg #[Value.string ⟨#[106, 117, 109, 112, 122]⟩, vi (1 : Int), vi (4 : Int), vi (0 : Int)]) [] 0
def Zmn (A : Array Value) (a0 : Int) (n : Nat) : Prop := Zz Try.prog 47 A [] (Value.agg #[Value.string ⟨#[106, 117, 109, 112, 122]⟩, vi (1 : Int), vi (4 : Int), vi (0 : Int)]) [] n 0

theorem ZqH (A : Array Value) (a0 : Int) (N : Nat) (h : Zay a0 N = some (.r9)) (n : Nat) (hA : A = #[vi a0]) (hnd : ([] : List Nat).Nodup) (hlt : ∀ k ∈ ([] : List Nat), k < n) : Zmn A a0  n :=
 Z7 hA (LSpec.callL (show LSpec Try.prog 47 #[vi a0] [] (Value.agg #[Value.string ⟨#[106, 117, 109, 112, 122]⟩, vi (1 : Int), vi (4 : Int), vi (0 : Int)]) [] from Zah a0 N _ h) [] n [] rfl hnd hlt (show 0 ≤ 0 from by decide) (show ∀ j ∈ ([] : List Nat), j < 0 from by decide) (by rfl) trivial (by rfl) trivial trivial rfl rfl rfl rfl rfl)

noncomputable def Zpl (a0 : Int) (n : Nat) : Zag := .call [] (Value.agg #[Value.string ⟨#[114, 111, 111, 116]⟩, vi (1 : Int), vi (0 : Int), vi (0 : Int)]) [] 0
def ZkG (A : Array Value) (a0 : Int) (n : Nat) : Prop := Zz Try.prog 47 A [] (Value.agg #[Value.string ⟨#[114, 111, 111, 116]⟩, vi (1 : Int), vi (0 : Int), vi (0 : Int)]) [] n 0

theorem Zpm (A : Array Value) (a0 : Int) (N : Nat) (h : Zay a0 N = some (.r10)) (n : Nat) (hA : A = #[vi a0]) (hnd : ([] : List Nat).Nodup) (hlt : ∀ k ∈ ([] : List Nat), k < n) : ZkG A a0  n :=
 Z7 hA (LSpec.callL (show LSpec Try.prog 47 #[vi a0] [] (Value.agg #[Value.string ⟨#[114, 111, 111, 116]⟩, vi (1 : Int), vi (0 : Int), vi (0 : Int)]) [] from Zah a0 N _ h) [] n [] rfl hnd hlt (show 0 ≤ 0 from by decide) (show ∀ j ∈ ([] : List Nat), j < 0 from by decide) (by rfl) trivial (by rfl) trivial trivial rfl rfl rfl rfl rfl)

noncomputable def Zpn (a0 : Int) (n : Nat) : Zag := .call [] (Value.agg #[Value.string ⟨#[110, 101, 119]⟩, vi (1 : Int), vi (3 : Int), vi (5 : Int)]) [] 0
def ZkH (A : Array Value) (a0 : Int) (n : Nat) : Prop := Zz Try.prog 47 A [] (Value.agg #[Value.string ⟨#[110, 101, 119]⟩, vi (1 : Int), vi (3 : Int), vi (5 : Int)]) [] n 0

theorem Zpo (A : Array Value) (a0 : Int) (N : Nat) (h : Zay a0 N = some (.r11)) (n : Nat) (hA : A = #[vi a0]) (hnd : ([] : List Nat).Nodup) (hlt : ∀ k ∈ ([] : List Nat), k < n) : ZkH A a0  n :=
 Z7 hA (LSpec.callL (show LSpec Try.prog 47 #[vi a0] [] (Value.agg #[Value.string ⟨#[110, 101, 119]⟩, vi (1 : Int), vi (3 : Int), vi (5 : Int)]) [] from Zah a0 N _ h) [] n [] rfl hnd hlt (show 0 ≤ 0 from by decide) (show ∀ j ∈ ([] : List Nat), j < 0 from by decide) (by rfl) trivial (by rfl) trivial trivial rfl rfl rfl rfl rfl)

noncomputable def Zpp (a0 : Int) (n : Nat) : Zag := .call [] (Value.agg #[Value.string ⟨#[102, 114, 101, 101]⟩, vi (1 : Int), vi (0 : Int), vi (0 : Int)]) [] 0
def ZkI (A : Array Value) (a0 : Int) (n : Nat) : Prop := Zz Try.prog 47 A [] (Value.agg #[Value.string ⟨#[102, 114, 101, 101]⟩, vi (1 : Int), vi (0 : Int), vi (0 : Int)]) [] n 0

theorem Zpq (A : Array Value) (a0 : Int) (N : Nat) (h : Zay a0 N = some (.r12)) (n : Nat) (hA : A = #[vi a0]) (hnd : ([] : List Nat).Nodup) (hlt : ∀ k ∈ ([] : List Nat), k < n) : ZkI A a0  n :=
 Z7 hA (LSpec.callL (show LSpec Try.prog 47 #[vi a0] [] (Value.agg #[Value.string ⟨#[102, 114, 101, 101]⟩, vi (1 : Int), vi (0 : Int), vi (0 : Int)]) [] from Zah a0 N _ h) [] n [] rfl hnd hlt (show 0 ≤ 0 from by decide) (show ∀ j ∈ ([] : List Nat), j < 0 from by decide) (by rfl) trivial (by rfl) trivial trivial rfl rfl rfl rfl rfl)

noncomputable def Zpr (a0 : Int) (n : Nat) : Zag := .call [] (Value.agg #[Value.string ⟨#[103, 101, 116]⟩, vi (1 : Int), vi (1 : Int), vi (2 : Int)]) [] 0
def ZkJ (A : Array Value) (a0 : Int) (n : Nat) : Prop := Zz Try.prog 47 A [] (Value.agg #[Value.string ⟨#[103, 101, 116]⟩, vi (1 : Int), vi (1 : Int), vi (2 : Int)]) [] n 0

theorem Zps (A : Array Value) (a0 : Int) (N : Nat) (h : Zay a0 N = some (.r13)) (n : Nat) (hA : A = #[vi a0]) (hnd : ([] : List Nat).Nodup) (hlt : ∀ k ∈ ([] : List Nat), k < n) : ZkJ A a0  n :=
 Z7 hA (LSpec.callL (show LSpec Try.prog 47 #[vi a0] [] (Value.agg #[Value.string ⟨#[103, 101, 116]⟩, vi (1 : Int), vi (1 : Int), vi (2 : Int)]) [] from Zah a0 N _ h) [] n [] rfl hnd hlt (show 0 ≤ 0 from by decide) (show ∀ j ∈ ([] : List Nat), j < 0 from by decide) (by rfl) trivial (by rfl) trivial trivial rfl rfl rfl rfl rfl)

noncomputable def Zpt (a0 : Int) (n : Nat) : Zag := .call [] (Value.agg #[Value.string ⟨#[115, 101, 116]⟩, vi (1 : Int), vi (2 : Int), vi (1 : Int)]) [] 0
def ZkK (A : Array Value) (a0 : Int) (n : Nat) : Prop := Zz Try.prog 47 A [] (Value.agg #[Value.string ⟨#[115, 101, 116]⟩, vi (1 : Int), vi (2 : Int), vi (1 : Int)]) [] n 0

theorem Zpu (A : Array Value) (a0 : Int) (N : Nat) (h : Zay a0 N = some (.r14)) (n : Nat) (hA : A = #[vi a0]) (hnd : ([] : List Nat).Nodup) (hlt : ∀ k ∈ ([] : List Nat), k < n) : ZkK A a0  n :=
 Z7 hA (LSpec.callL (show LSpec Try.prog 47 #[vi a0] [] (Value.agg #[Value.string ⟨#[115, 101, 116]⟩, vi (1 : Int), vi (2 : Int), vi (1 : Int)]) [] from Zah a0 N _ h) [] n [] rfl hnd hlt (show 0 ≤ 0 from by decide) (show ∀ j ∈ ([] : List Nat), j < 0 from by decide) (by rfl) trivial (by rfl) trivial trivial rfl rfl rfl rfl rfl)

noncomputable def Zpv (a0 : Int) (n : Nat) : Zag := .call [] (Value.agg #[Value.string ⟨#[98, 101, 103, 105, 110]⟩, vi (0 : Int), vi (0 : Int), vi (0 : Int)]) [] 0
def ZkL (A : Array Value) (a0 : Int) (n : Nat) : Prop := Zz Try.prog 47 A [] (Value.agg #[Value.string ⟨#[98, 101, 103, 105, 110]⟩, vi (0 : Int), vi (0 : Int), vi (0 : Int)]) [] n 0

theorem Zpw (A : Array Value) (a0 : Int) (N : Nat) (h : Zay a0 N = some (.r15)) (n : Nat) (hA : A = #[vi a0]) (hnd : ([] : List Nat).Nodup) (hlt : ∀ k ∈ ([] : List Nat), k < n) : ZkL A a0  n :=
 Z7 hA (LSpec.callL (show LSpec Try.prog 47 #[vi a0] [] (Value.agg #[Value.string ⟨#[98, 101, 103, 105, 110]⟩, vi (0 : Int), vi (0 : Int), vi (0 : Int)]) [] from Zah a0 N _ h) [] n [] rfl hnd hlt (show 0 ≤ 0 from by decide) (show ∀ j ∈ ([] : List Nat), j < 0 from by decide) (by rfl) trivial (by rfl) trivial trivial rfl rfl rfl rfl rfl)

noncomputable def Zpx (a0 : Int) (n : Nat) : Zag := .call [] (Value.agg #[Value.string ⟨#[101, 108, 115, 101]⟩, vi (0 : Int), vi (0 : Int), vi (0 : Int)]) [] 0
def ZkM (A : Array Value) (a0 : Int) (n : Nat) : Prop := Zz Try.prog 47 A [] (Value.agg #[Value.string ⟨#[101, 108, 115, 101]⟩, vi (0 : Int), vi (0 : Int), vi (0 : Int)]) [] n 0

theorem Zpy (A : Array Value) (a0 : Int) (N : Nat) (h : Zay a0 N = some (.r16)) (n : Nat) (hA : A = #[vi a0]) (hnd : ([] : List Nat).Nodup) (hlt : ∀ k ∈ ([] : List Nat), k < n) : ZkM A a0  n :=
 Z7 hA (LSpec.callL (show LSpec Try.prog 47 #[vi a0] [] (Value.agg #[Value.string ⟨#[101, 108, 115, 101]⟩, vi (0 : Int), vi (0 : Int), vi (0 : Int)]) [] from Zah a0 N _ h) [] n [] rfl hnd hlt (show 0 ≤ 0 from by decide) (show ∀ j ∈ ([] : List Nat), j < 0 from by decide) (by rfl) trivial (by rfl) trivial trivial rfl rfl rfl rfl rfl)

noncomputable def Zpz (a0 : Int) (n : Nat) : Zag := .call [] (Value.agg #[Value.string ⟨#[101, 110, 100]⟩, vi (0 : Int), vi (0 : Int), vi (0 : Int)]) [] 0
def ZkN (A : Array Value) (a0 : Int) (n : Nat) : Prop := Zz Try.prog 47 A [] (Value.agg #[Value.string ⟨#[101, 110, 100]⟩, vi (0 : Int), vi (0 : Int), vi (0 : Int)]) [] n 0

theorem Zp0 (A : Array Value) (a0 : Int) (N : Nat) (h : Zay a0 N = some (.r17)) (n : Nat) (hA : A = #[vi a0]) (hnd : ([] : List Nat).Nodup) (hlt : ∀ k ∈ ([] : List Nat), k < n) : ZkN A a0  n :=
 Z7 hA (LSpec.callL (show LSpec Try.prog 47 #[vi a0] [] (Value.agg #[Value.string ⟨#[101, 110, 100]⟩, vi (0 : Int), vi (0 : Int), vi (0 : Int)]) [] from Zah a0 N _ h) [] n [] rfl hnd hlt (show 0 ≤ 0 from by decide) (show ∀ j ∈ ([] : List Nat), j < 0 from by decide) (by rfl) trivial (by rfl) trivial trivial rfl rfl rfl rfl rfl)

noncomputable def Zp1 (a0 : Int) (n : Nat) : Zag := .call [] (Value.agg #[Value.string ⟨#[114, 101, 116, 114, 121]⟩, vi (0 : Int), vi (0 : Int), vi (0 : Int)]) [] 0
def ZkO (A : Array Value) (a0 : Int) (n : Nat) : Prop := Zz Try.prog 47 A [] (Value.agg #[Value.string ⟨#[114, 101, 116, 114, 121]⟩, vi (0 : Int), vi (0 : Int), vi (0 : Int)]) [] n 0

theorem Zp2 (A : Array Value) (a0 : Int) (N : Nat) (h : Zay a0 N = some (.r18)) (n : Nat) (hA : A = #[vi a0]) (hnd : ([] : List Nat).Nodup) (hlt : ∀ k ∈ ([] : List Nat), k < n) : ZkO A a0  n :=
 Z7 hA (LSpec.callL (show LSpec Try.prog 47 #[vi a0] [] (Value.agg #[Value.string ⟨#[114, 101, 116, 114, 121]⟩, vi (0 : Int), vi (0 : Int), vi (0 : Int)]) [] from Zah a0 N _ h) [] n [] rfl hnd hlt (show 0 ≤ 0 from by decide) (show ∀ j ∈ ([] : List Nat), j < 0 from by decide) (by rfl) trivial (by rfl) trivial trivial rfl rfl rfl rfl rfl)

noncomputable def Zp3 (a0 : Int) (n : Nat) : Zag := .call [] (Value.agg #[Value.string ⟨#[101, 109, 105, 116]⟩, vi (1 : Int), vi (0 : Int), vi (0 : Int)]) [] 0
def ZkP (A : Array Value) (a0 : Int) (n : Nat) : Prop := Zz Try.prog 47 A [] (Value.agg #[Value.string ⟨#[101, 109, 105, 116]⟩, vi (1 : Int), vi (0 : Int), vi (0 : Int)]) [] n 0

theorem Zp4 (A : Array Value) (a0 : Int) (N : Nat) (h : Zay a0 N = some (.r19)) (n : Nat) (hA : A = #[vi a0]) (hnd : ([] : List Nat).Nodup) (hlt : ∀ k ∈ ([] : List Nat), k < n) : ZkP A a0  n :=
 Z7 hA (LSpec.callL (show LSpec Try.prog 47 #[vi a0] [] (Value.agg #[Value.string ⟨#[101, 109, 105, 116]⟩, vi (1 : Int), vi (0 : Int), vi (0 : Int)]) [] from Zah a0 N _ h) [] n [] rfl hnd hlt (show 0 ≤ 0 from by decide) (show ∀ j ∈ ([] : List Nat), j < 0 from by decide) (by rfl) trivial (by rfl) trivial trivial rfl rfl rfl rfl rfl)

noncomputable def Zp5 (a0 : Int) (n : Nat) : Zag := .call [] (Value.agg #[Value.string ⟨#[104, 97, 108, 116]⟩, vi (0 : Int), vi (0 : Int), vi (0 : Int)]) [] 0
def ZkQ (A : Array Value) (a0 : Int) (n : Nat) : Prop := Zz Try.prog 47 A [] (Value.agg #[Value.string ⟨#[104, 97, 108, 116]⟩, vi (0 : Int), vi (0 : Int), vi (0 : Int)]) [] n 0

theorem Zp6 (A : Array Value) (a0 : Int) (N : Nat) (h : Zay a0 N = some (.r20)) (n : Nat) (hA : A = #[vi a0]) (hnd : ([] : List Nat).Nodup) (hlt : ∀ k ∈ ([] : List Nat), k < n) : ZkQ A a0  n :=
 Z7 hA (LSpec.callL (show LSpec Try.prog 47 #[vi a0] [] (Value.agg #[Value.string ⟨#[104, 97, 108, 116]⟩, vi (0 : Int), vi (0 : Int), vi (0 : Int)]) [] from Zah a0 N _ h) [] n [] rfl hnd hlt (show 0 ≤ 0 from by decide) (show ∀ j ∈ ([] : List Nat), j < 0 from by decide) (by rfl) trivial (by rfl) trivial trivial rfl rfl rfl rfl rfl)

noncomputable def ZhN (a0 a1 a2 : Int) : Zt → Value
 | .r0 w0 => Value.bool w0
noncomputable def Zhy (a0 a1 a2 : Int) : Zt → List (Option AObj)
 | .r0 w0 => []

theorem Zla (a0 a1 a2 : Int) (N : Nat) : Fx Try.prog Z8 Try.f48 [] #[vi a0, vi a1, vi a2] (ZhN a0 a1 a2) (Zhy a0 a1 a2) (ZL a0 a1 a2 N) := by
 unfold ZL
 refine Zo (fun g0 => ?_) (fun g0 => ?_)
 ·
  refine Zo (fun g1 => ?_) (fun g1 => ?_)
  ·
   refine Zo (fun g2 => ?_) (fun g2 => ?_)
   ·
    exact Zn (r := (.r0 (true) : Zt)) (fu := 4000) (orc := (Zk [(0, true), (1, true), (2, true)] [] [] [] [])) (live := []) (u := Value.bool true) (bl := []) (ob := [((decide (a1 ≤ (7 : Int))), true), ((decide ((0 : Int) ≤ a1)), true), ((a0 == (1 : Int)), true)]) (by kernel_rfl) (oY <| oY <| oT Zh) rfl (by decide) (by rfl) rr trivial
   ·
    exact Zn (r := (.r0 (false) : Zt)) (fu := 4000) (orc := (Zk [(0, true), (1, true), (2, false)] [] [] [] [])) (live := []) (u := Value.bool false) (bl := []) (ob := [((decide (a1 ≤ (7 : Int))), false), ((decide ((0 : Int) ≤ a1)), true), ((a0 == (1 : Int)), true)]) (by kernel_rfl) (oN <| oY <| oT Zh) rfl (by decide) (by rfl) rr trivial
  ·
   exact Zn (r := (.r0 (false) : Zt)) (fu := 4000) (orc := (Zk [(0, true), (1, false)] [] [] [] [])) (live := []) (u := Value.bool false) (bl := []) (ob := [((decide ((0 : Int) ≤ a1)), false), ((a0 == (1 : Int)), true)]) (by kernel_rfl) (oN <| oT Zh) rfl (by decide) (by rfl) rr trivial
 ·
  refine Zo (fun g1 => ?_) (fun g1 => ?_)
  ·
   refine Zo (fun g2 => ?_) (fun g2 => ?_)
   ·
    refine Zo (fun g3 => ?_) (fun g3 => ?_)
    ·
     exact Zn (r := (.r0 (true) : Zt)) (fu := 4000) (orc := (Zk [(0, false), (1, true), (2, true), (3, true)] [] [] [] [])) (live := []) (u := Value.bool true) (bl := []) (ob := [((decide (a1 ≤ (15 : Int))), true), ((decide ((0 : Int) ≤ a1)), true), ((a0 == (2 : Int)), true), ((a0 == (1 : Int)), false)]) (by kernel_rfl) (oY <| oY <| oT <| oF Zh) rfl (by decide) (by rfl) rr trivial
    ·
     exact Zn (r := (.r0 (false) : Zt)) (fu := 4000) (orc := (Zk [(0, false), (1, true), (2, true), (3, false)] [] [] [] [])) (live := []) (u := Value.bool false) (bl := []) (ob := [((decide (a1 ≤ (15 : Int))), false), ((decide ((0 : Int) ≤ a1)), true), ((a0 == (2 : Int)), true), ((a0 == (1 : Int)), false)]) (by kernel_rfl) (oN <| oY <| oT <| oF Zh) rfl (by decide) (by rfl) rr trivial
   ·
    exact Zn (r := (.r0 (false) : Zt)) (fu := 4000) (orc := (Zk [(0, false), (1, true), (2, false)] [] [] [] [])) (live := []) (u := Value.bool false) (bl := []) (ob := [((decide ((0 : Int) ≤ a1)), false), ((a0 == (2 : Int)), true), ((a0 == (1 : Int)), false)]) (by kernel_rfl) (oN <| oT <| oF Zh) rfl (by decide) (by rfl) rr trivial
  ·
   refine Zo (fun g2 => ?_) (fun g2 => ?_)
   ·
    refine Zo (fun g3 => ?_) (fun g3 => ?_)
    ·
     refine Zo (fun g4 => ?_) (fun g4 => ?_)
     ·
      exact Zn (r := (.r0 (true) : Zt)) (fu := 4000) (orc := (Zk [(0, false), (1, false), (2, true), (3, true), (4, true)] [] [] [] [])) (live := []) (u := Value.bool true) (bl := []) (ob := [((decide (a1 ≤ (16 : Int))), true), ((decide ((1 : Int) ≤ a1)), true), ((a0 == (3 : Int)), true), ((a0 == (2 : Int)), false), ((a0 == (1 : Int)), false)]) (by kernel_rfl) (oY <| oY <| oT <| oF <| oF Zh) rfl (by decide) (by rfl) rr trivial
     ·
      exact Zn (r := (.r0 (false) : Zt)) (fu := 4000) (orc := (Zk [(0, false), (1, false), (2, true), (3, true), (4, false)] [] [] [] [])) (live := []) (u := Value.bool false) (bl := []) (ob := [((decide (a1 ≤ (16 : Int))), false), ((decide ((1 : Int) ≤ a1)), true), ((a0 == (3 : Int)), true), ((a0 == (2 : Int)), false), ((a0 == (1 : Int)), false)]) (by kernel_rfl) (oN <| oY <| oT <| oF <| oF Zh) rfl (by decide) (by rfl) rr trivial
    ·
     exact Zn (r := (.r0 (false) : Zt)) (fu := 4000) (orc := (Zk [(0, false), (1, false), (2, true), (3, false)] [] [] [] [])) (live := []) (u := Value.bool false) (bl := []) (ob := [((decide ((1 : Int) ≤ a1)), false), ((a0 == (3 : Int)), true), ((a0 == (2 : Int)), false), ((a0 == (1 : Int)), false)]) (by kernel_rfl) (oN <| oT <| oF <| oF Zh) rfl (by decide) (by rfl) rr trivial
   ·
    refine Zo (fun g3 => ?_) (fun g3 => ?_)
    ·
     refine Zo (fun g4 => ?_) (fun g4 => ?_)
     ·
      refine Zo (fun g5 => ?_) (fun g5 => ?_)
      ·
       exact Zn (r := (.r0 (true) : Zt)) (fu := 4000) (orc := (Zk [(0, false), (1, false), (2, false), (3, true), (4, true), (5, true)] [] [] [] [])) (live := []) (u := Value.bool true) (bl := []) (ob := [((decide (a1 ≤ (512 : Int))), true), ((decide ((0 : Int) ≤ a1)), true), ((a0 == (4 : Int)), true), ((a0 == (3 : Int)), false), ((a0 == (2 : Int)), false), ((a0 == (1 : Int)), false)]) (by kernel_rfl) (oY <| oY <| oT <| oF <| oF <| oF Zh) rfl (by decide) (by rfl) rr trivial
      ·
       exact Zn (r := (.r0 (false) : Zt)) (fu := 4000) (orc := (Zk [(0, false), (1, false), (2, false), (3, true), (4, true), (5, false)] [] [] [] [])) (live := []) (u := Value.bool false) (bl := []) (ob := [((decide (a1 ≤ (512 : Int))), false), ((decide ((0 : Int) ≤ a1)), true), ((a0 == (4 : Int)), true), ((a0 == (3 : Int)), false), ((a0 == (2 : Int)), false), ((a0 == (1 : Int)), false)]) (by kernel_rfl) (oN <| oY <| oT <| oF <| oF <| oF Zh) rfl (by decide) (by rfl) rr trivial
     ·
      exact Zn (r := (.r0 (false) : Zt)) (fu := 4000) (orc := (Zk [(0, false), (1, false), (2, false), (3, true), (4, false)] [] [] [] [])) (live := []) (u := Value.bool false) (bl := []) (ob := [((decide ((0 : Int) ≤ a1)), false), ((a0 == (4 : Int)), true), ((a0 == (3 : Int)), false), ((a0 == (2 : Int)), false), ((a0 == (1 : Int)), false)]) (by kernel_rfl) (oN <| oT <| oF <| oF <| oF Zh) rfl (by decide) (by rfl) rr trivial
    ·
     refine Zo (fun g4 => ?_) (fun g4 => ?_)
     ·
      refine Zo (fun g5 => ?_) (fun g5 => ?_)
      ·
       refine Zo (fun g6 => ?_) (fun g6 => ?_)
       ·
        refine Zo (fun g7 => ?_) (fun g7 => ?_)
        ·
         refine Zo (fun g8 => ?_) (fun g8 => ?_)
         ·
          exact Zn (r := (.r0 (true) : Zt)) (fu := 4000) (orc := (Zk [(0, false), (1, false), (2, false), (3, false), (4, true), (5, true), (6, true)] [] [] [] [(0, .sh (a2).toNat)])) (live := []) (u := Value.bool true) (bl := []) (ob := [((decide (a1 ≤ (IntKind.i64.wrap ((IntKind.i64.wrap ((1 : Int) * (2 ^ (a2).toNat : Int))) - (1 : Int))))), true), ((decide ((0 : Int) ≤ a1)), true), (dP (a2 = Int.ofNat (a2).toNat ∧ (a2).toNat ≤ IntKind.i64.bits), true), ((a0 == (5 : Int)), true), ((a0 == (4 : Int)), false), ((a0 == (3 : Int)), false), ((a0 == (2 : Int)), false), ((a0 == (1 : Int)), false)]) (by kernel_rfl) (oY <| oY <| Zc (Zg ⟨by first | rfl | exact Zoj (by omega), show _ ≤ 64 from by omega⟩) <| oT <| oF <| oF <| oF <| oF Zh) rfl (by decide) (by rfl) rr trivial
         ·
          exact Zn (r := (.r0 (false) : Zt)) (fu := 4000) (orc := (Zk [(0, false), (1, false), (2, false), (3, false), (4, true), (5, true), (6, false)] [] [] [] [(0, .sh (a2).toNat)])) (live := []) (u := Value.bool false) (bl := []) (ob := [((decide (a1 ≤ (IntKind.i64.wrap ((IntKind.i64.wrap ((1 : Int) * (2 ^ (a2).toNat : Int))) - (1 : Int))))), false), ((decide ((0 : Int) ≤ a1)), true), (dP (a2 = Int.ofNat (a2).toNat ∧ (a2).toNat ≤ IntKind.i64.bits), true), ((a0 == (5 : Int)), true), ((a0 == (4 : Int)), false), ((a0 == (3 : Int)), false), ((a0 == (2 : Int)), false), ((a0 == (1 : Int)), false)]) (by kernel_rfl) (oN <| oY <| Zc (Zg ⟨by first | rfl | exact Zoj (by omega), show _ ≤ 64 from by omega⟩) <| oT <| oF <| oF <| oF <| oF Zh) rfl (by decide) (by rfl) rr trivial
        ·
         exact Zn (r := (.r0 (false) : Zt)) (fu := 4000) (orc := (Zk [(0, false), (1, false), (2, false), (3, false), (4, true), (5, false)] [] [] [] [(0, .sh (a2).toNat)])) (live := []) (u := Value.bool false) (bl := []) (ob := [((decide ((0 : Int) ≤ a1)), false), (dP (a2 = Int.ofNat (a2).toNat ∧ (a2).toNat ≤ IntKind.i64.bits), true), ((a0 == (5 : Int)), true), ((a0 == (4 : Int)), false), ((a0 == (3 : Int)), false), ((a0 == (2 : Int)), false), ((a0 == (1 : Int)), false)]) (by kernel_rfl) (oN <| Zc (Zg ⟨by first | rfl | exact Zoj (by omega), show _ ≤ 64 from by omega⟩) <| oT <| oF <| oF <| oF <| oF Zh) rfl (by decide) (by rfl) rr trivial
       ·
        exact ZM
      ·
       exact ZM
     ·
      refine Zo (fun g5 => ?_) (fun g5 => ?_)
      ·
       refine Zo (fun g6 => ?_) (fun g6 => ?_)
       ·
        refine Zo (fun g7 => ?_) (fun g7 => ?_)
        ·
         exact Zn (r := (.r0 (true) : Zt)) (fu := 4000) (orc := (Zk [(0, false), (1, false), (2, false), (3, false), (4, false), (5, true), (6, true), (7, true)] [] [] [] [])) (live := []) (u := Value.bool true) (bl := []) (ob := [((decide (a1 ≤ (1099511627776 : Int))), true), ((decide ((-1099511627776 : Int) ≤ a1)), true), ((a0 == (6 : Int)), true), ((a0 == (5 : Int)), false), ((a0 == (4 : Int)), false), ((a0 == (3 : Int)), false), ((a0 == (2 : Int)), false), ((a0 == (1 : Int)), false)]) (by kernel_rfl) (oY <| oY <| oT <| oF <| oF <| oF <| oF <| oF Zh) rfl (by decide) (by rfl) rr trivial
        ·
         exact Zn (r := (.r0 (false) : Zt)) (fu := 4000) (orc := (Zk [(0, false), (1, false), (2, false), (3, false), (4, false), (5, true), (6, true), (7, false)] [] [] [] [])) (live := []) (u := Value.bool false) (bl := []) (ob := [((decide (a1 ≤ (1099511627776 : Int))), false), ((decide ((-1099511627776 : Int) ≤ a1)), true), ((a0 == (6 : Int)), true), ((a0 == (5 : Int)), false), ((a0 == (4 : Int)), false), ((a0 == (3 : Int)), false), ((a0 == (2 : Int)), false), ((a0 == (1 : Int)), false)]) (by kernel_rfl) (oN <| oY <| oT <| oF <| oF <| oF <| oF <| oF Zh) rfl (by decide) (by rfl) rr trivial
       ·
        exact Zn (r := (.r0 (false) : Zt)) (fu := 4000) (orc := (Zk [(0, false), (1, false), (2, false), (3, false), (4, false), (5, true), (6, false)] [] [] [] [])) (live := []) (u := Value.bool false) (bl := []) (ob := [((decide ((-1099511627776 : Int) ≤ a1)), false), ((a0 == (6 : Int)), true), ((a0 == (5 : Int)), false), ((a0 == (4 : Int)), false), ((a0 == (3 : Int)), false), ((a0 == (2 : Int)), false), ((a0 == (1 : Int)), false)]) (by kernel_rfl) (oN <| oT <| oF <| oF <| oF <| oF <| oF Zh) rfl (by decide) (by rfl) rr trivial
      ·
       refine Zo (fun g6 => ?_) (fun g6 => ?_)
       ·
        refine Zo (fun g7 => ?_) (fun g7 => ?_)
        ·
         exact Zn (r := (.r0 (true) : Zt)) (fu := 4000) (orc := (Zk [(0, false), (1, false), (2, false), (3, false), (4, false), (5, false), (6, true), (7, true)] [] [] [] [])) (live := []) (u := Value.bool true) (bl := []) (ob := [((decide (a1 ≤ (0 : Int))), true), ((decide ((0 : Int) ≤ a1)), true), ((a0 == (6 : Int)), false), ((a0 == (5 : Int)), false), ((a0 == (4 : Int)), false), ((a0 == (3 : Int)), false), ((a0 == (2 : Int)), false), ((a0 == (1 : Int)), false)]) (by kernel_rfl) (oY <| oY <| oF <| oF <| oF <| oF <| oF <| oF Zh) rfl (by decide) (by rfl) rr trivial
        ·
         exact Zn (r := (.r0 (false) : Zt)) (fu := 4000) (orc := (Zk [(0, false), (1, false), (2, false), (3, false), (4, false), (5, false), (6, true), (7, false)] [] [] [] [])) (live := []) (u := Value.bool false) (bl := []) (ob := [((decide (a1 ≤ (0 : Int))), false), ((decide ((0 : Int) ≤ a1)), true), ((a0 == (6 : Int)), false), ((a0 == (5 : Int)), false), ((a0 == (4 : Int)), false), ((a0 == (3 : Int)), false), ((a0 == (2 : Int)), false), ((a0 == (1 : Int)), false)]) (by kernel_rfl) (oN <| oY <| oF <| oF <| oF <| oF <| oF <| oF Zh) rfl (by decide) (by rfl) rr trivial
       ·
        exact Zn (r := (.r0 (false) : Zt)) (fu := 4000) (orc := (Zk [(0, false), (1, false), (2, false), (3, false), (4, false), (5, false), (6, false)] [] [] [] [])) (live := []) (u := Value.bool false) (bl := []) (ob := [((decide ((0 : Int) ≤ a1)), false), ((a0 == (6 : Int)), false), ((a0 == (5 : Int)), false), ((a0 == (4 : Int)), false), ((a0 == (3 : Int)), false), ((a0 == (2 : Int)), false), ((a0 == (1 : Int)), false)]) (by kernel_rfl) (oN <| oF <| oF <| oF <| oF <| oF <| oF Zh) rfl (by decide) (by rfl) rr trivial

theorem ZjU (a0 a1 a2 : Int) (N : Nat) (r : Zt) (h : ZL a0 a1 a2 N = some r) : LSpec Try.prog 48 #[vi a0, vi a1, vi a2] [] (ZhN a0 a1 a2 r) (Zhy a0 a1 a2 r) :=
 ZaB Zax Try.func48 (by kernel_rfl) (by kernel_rfl) (fun r => by cases r <;> exact Zaf _ rfl) (Zla a0 a1 a2 N) h

noncomputable def Zc1 (a0 a1 a2 : Int) (w0 : Bool) (n : Nat) : Zag := .call [] (Value.bool w0) [] 0
def Zca (A : Array Value) (a0 a1 a2 : Int) (w0 : Bool) (n : Nat) : Prop := Zz Try.prog 48 A [] (Value.bool w0) [] n 0

theorem Zc2 (A : Array Value) (a0 a1 a2 : Int) (w0 : Bool) (N : Nat) (h : ZL a0 a1 a2 N = some (.r0 w0)) (n : Nat) (hA : A = #[vi a0, vi a1, vi a2]) (hnd : ([] : List Nat).Nodup) (hlt : ∀ k ∈ ([] : List Nat), k < n) : Zca A a0 a1 a2 w0  n :=
 Z7 hA (LSpec.callL (show LSpec Try.prog 48 #[vi a0, vi a1, vi a2] [] (Value.bool w0) [] from ZjU a0 a1 a2 N _ h) [] n [] rfl hnd hlt (show 0 ≤ 0 from by decide) (show ∀ j ∈ ([] : List Nat), j < 0 from by decide) (by rfl) trivial (by rfl) trivial trivial rfl rfl rfl rfl rfl)

noncomputable def Zmo (a0 a1 a2 a3 : Int) : Za8 → Value
 | .r0 w0 => vi w0
noncomputable def ZkR (a0 a1 a2 a3 : Int) : Za8 → List (Option AObj)
 | .r0 w0 => []

def Zp7 : Zs → Nat
 | .h1m0 v1 v2 v3 => 1
 | .h1m1 v1 v2 v3 => 1
 | .h1m2 v1 v2 v3 => 1
 | .h1m3 v1 v2 v3 => 1
noncomputable def ZqI (a0 a1 a2 a3 : Int) : Zs → List (Nat × Value)
 | .h1m0 v1 v2 v3 => [(4, vp 0 0), (5, vi (0 : Int)), (22, Value.agg #[vi (v1 : Int), vi (v2 : Int), vi (v3 : Int)]), (23, vi (0 : Int))]
 | .h1m1 v1 v2 v3 => [(4, vp 0 0), (5, vi a1), (22, Value.agg #[vi (v1 : Int), vi (v2 : Int), vi (v3 : Int)]), (23, vi (1 : Int))]
 | .h1m2 v1 v2 v3 => [(4, vp 0 0), (5, vi a2), (22, Value.agg #[vi (v1 : Int), vi (v2 : Int), vi (v3 : Int)]), (23, vi (2 : Int))]
 | .h1m3 v1 v2 v3 => [(4, vp 0 0), (5, vi a3), (22, Value.agg #[vi (v1 : Int), vi (v2 : Int), vi (v3 : Int)]), (23, vi (3 : Int))]
noncomputable def ZqJ (a0 a1 a2 a3 : Int) : Zs → List (Option AObj)
 | .h1m0 v1 v2 v3 => [some (.cells [vi a1, vi a2, vi a3] 70)]
 | .h1m1 v1 v2 v3 => [some (.cells [vi a1, vi a2, vi a3] 70)]
 | .h1m2 v1 v2 v3 => [some (.cells [vi a1, vi a2, vi a3] 70)]
 | .h1m3 v1 v2 v3 => [some (.cells [vi a1, vi a2, vi a3] 70)]

noncomputable def Z5 : Nat → Code × List Zb3
 | 1 => ZcZ [1, 1, 1, 1, 1, 0, 1, 3] (Ze6 Try.f41) []
 | _ => (.skip, [])
def ZkS : Nat → Bool
 | 1 => true
 | _ => true
noncomputable def ZiF (i : Nat) : List Zb3 := match ZkS i with | true => .rnd i :: (Z5 i).2 | false => (Z5 i).2

noncomputable def ZJ (a0 a1 a2 a3 : Int) (N : Nat) : Mach := ⟨Try.f41, [], Zs, Za8, Zcj a0 a1 a2 a3 N, Zp7, Z5, ZkS, ZqI a0 a1 a2 a3, ZqJ a0 a1 a2 a3, Zmo a0 a1 a2 a3, ZkR a0 a1 a2 a3⟩

theorem ZmY (a0 a1 a2 a3 : Int) (v1 v2 v3 N : Nat) : (ZJ a0 a1 a2 a3 N).Ok Try.prog Z8 (.h1m0 v1 v2 v3 : Zs) (Zcj a0 a1 a2 a3 N (.h1m0 v1 v2 v3 : Zs)) := by
 show (ZJ a0 a1 a2 a3 N).Ok Try.prog Z8 (.h1m0 v1 v2 v3 : Zs) (Zcs a0 a1 a2 a3 N v1 v2 v3)
 unfold Zcs
 refine Mach.ok_bind (fun z0 c0 => ?_)
 cases z0 with
 | r0 y0_0 =>
  refine Mach.ok_ite (fun g1 => ?_) (fun g1 => ?_)
  ·
   exact Mach.ok_fin (M := ZJ a0 a1 a2 a3 N) (cd := 1000000) (cm := 0) (r := (.r0 ((100 : Int)) : Za8)) (fu := 4000) (orc := (Zk [(1, true)] [] [] [] [(0, (Zc1 ((v1 : Int)) (a1) ((0 : Int))  y0_0  1))])) (live := []) (u := vi (100 : Int)) (bl := []) (ob := [((!y0_0), true), (dP (Zca #[vi (v1 : Int), vi a1, vi (0 : Int)] ((v1 : Int)) (a1) ((0 : Int))  y0_0  1), true)]) (fun gv => by kernel_rfl) (Zc (Zqw (by first | assumption | simp_all)) <| Zc (Zg (Zc2 #[vi (v1 : Int), vi a1, vi (0 : Int)] ((v1 : Int)) (a1) ((0 : Int))  y0_0 N c0  1 rfl (by decide) (by decide))) Zh) rfl (by decide) (by rfl) rr trivial
  ·
   exact Mach.ok_next (M := ZJ a0 a1 a2 a3 N) (cd := 1000000) (cm := 0) (y := (.h1m1 (v1) (v2) (v3) : Zs)) (fu := 4000) (orc := (Zk [(1, false)] [] [] [] [(0, (Zc1 ((v1 : Int)) (a1) ((0 : Int))  y0_0  1))])) (live := [0]) (tv := fun _ => [some (vp 0 0), some (vi a1), some (Value.agg #[vi (v1 : Int), vi (v2 : Int), vi (v3 : Int)]), some (vi (1 : Int))]) (bl := [some (.cells [vi a1, vi a2, vi a3] 70)]) (ob := [((!y0_0), false), (dP (Zca #[vi (v1 : Int), vi a1, vi (0 : Int)] ((v1 : Int)) (a1) ((0 : Int))  y0_0  1), true)]) rfl (show 1 ∈ ZQ (ZiF 1) from by decide +kernel) (fun gv => by kernel_rfl) (Zc (Zqx (by first | assumption | simp_all)) <| Zc (Zg (Zc2 #[vi (v1 : Int), vi a1, vi (0 : Int)] ((v1 : Int)) (a1) ((0 : Int))  y0_0 N c0  1 rfl (by decide) (by decide))) Zh) rfl (by decide) (by rfl) (fun _ => ⟨rr, ⟨rr, ⟨rr, ⟨rr, trivial⟩⟩⟩⟩) ⟨⟨rfl, ⟨[], by rfl⟩, by rfl⟩, trivial⟩

theorem ZmZ (a0 a1 a2 a3 : Int) (v1 v2 v3 N : Nat) : (ZJ a0 a1 a2 a3 N).Ok Try.prog Z8 (.h1m1 v1 v2 v3 : Zs) (Zcj a0 a1 a2 a3 N (.h1m1 v1 v2 v3 : Zs)) := by
 show (ZJ a0 a1 a2 a3 N).Ok Try.prog Z8 (.h1m1 v1 v2 v3 : Zs) (Zct a0 a1 a2 a3 N v1 v2 v3)
 unfold Zct
 refine Mach.ok_bind (fun z0 c0 => ?_)
 cases z0 with
 | r0 y0_0 =>
  refine Mach.ok_ite (fun g1 => ?_) (fun g1 => ?_)
  ·
   exact Mach.ok_fin (M := ZJ a0 a1 a2 a3 N) (cd := 1000000) (cm := 0) (r := (.r0 ((100 : Int)) : Za8)) (fu := 4000) (orc := (Zk [(1, true)] [] [] [] [(0, (Zc1 ((v2 : Int)) (a2) (a1)  y0_0  1))])) (live := []) (u := vi (100 : Int)) (bl := []) (ob := [((!y0_0), true), (dP (Zca #[vi (v2 : Int), vi a2, vi a1] ((v2 : Int)) (a2) (a1)  y0_0  1), true)]) (fun gv => by kernel_rfl) (Zc (Zqw (by first | assumption | simp_all)) <| Zc (Zg (Zc2 #[vi (v2 : Int), vi a2, vi a1] ((v2 : Int)) (a2) (a1)  y0_0 N c0  1 rfl (by decide) (by decide))) Zh) rfl (by decide) (by rfl) rr trivial
  ·
   exact Mach.ok_next (M := ZJ a0 a1 a2 a3 N) (cd := 1000000) (cm := 0) (y := (.h1m2 (v1) (v2) (v3) : Zs)) (fu := 4000) (orc := (Zk [(1, false)] [] [] [] [(0, (Zc1 ((v2 : Int)) (a2) (a1)  y0_0  1))])) (live := [0]) (tv := fun _ => [some (vp 0 0), some (vi a2), some (Value.agg #[vi (v1 : Int), vi (v2 : Int), vi (v3 : Int)]), some (vi (2 : Int))]) (bl := [some (.cells [vi a1, vi a2, vi a3] 70)]) (ob := [((!y0_0), false), (dP (Zca #[vi (v2 : Int), vi a2, vi a1] ((v2 : Int)) (a2) (a1)  y0_0  1), true)]) rfl (show 1 ∈ ZQ (ZiF 1) from by decide +kernel) (fun gv => by kernel_rfl) (Zc (Zqx (by first | assumption | simp_all)) <| Zc (Zg (Zc2 #[vi (v2 : Int), vi a2, vi a1] ((v2 : Int)) (a2) (a1)  y0_0 N c0  1 rfl (by decide) (by decide))) Zh) rfl (by decide) (by rfl) (fun _ => ⟨rr, ⟨rr, ⟨rr, ⟨rr, trivial⟩⟩⟩⟩) ⟨⟨rfl, ⟨[], by rfl⟩, by rfl⟩, trivial⟩

theorem Zna (a0 a1 a2 a3 : Int) (v1 v2 v3 N : Nat) : (ZJ a0 a1 a2 a3 N).Ok Try.prog Z8 (.h1m2 v1 v2 v3 : Zs) (Zcj a0 a1 a2 a3 N (.h1m2 v1 v2 v3 : Zs)) := by
 show (ZJ a0 a1 a2 a3 N).Ok Try.prog Z8 (.h1m2 v1 v2 v3 : Zs) (Zcu a0 a1 a2 a3 N v1 v2 v3)
 unfold Zcu
 refine Mach.ok_bind (fun z0 c0 => ?_)
 cases z0 with
 | r0 y0_0 =>
  refine Mach.ok_ite (fun g1 => ?_) (fun g1 => ?_)
  ·
   exact Mach.ok_fin (M := ZJ a0 a1 a2 a3 N) (cd := 1000000) (cm := 0) (r := (.r0 ((100 : Int)) : Za8)) (fu := 4000) (orc := (Zk [(1, true)] [] [] [] [(0, (Zc1 ((v3 : Int)) (a3) (a2)  y0_0  1))])) (live := []) (u := vi (100 : Int)) (bl := []) (ob := [((!y0_0), true), (dP (Zca #[vi (v3 : Int), vi a3, vi a2] ((v3 : Int)) (a3) (a2)  y0_0  1), true)]) (fun gv => by kernel_rfl) (Zc (Zqw (by first | assumption | simp_all)) <| Zc (Zg (Zc2 #[vi (v3 : Int), vi a3, vi a2] ((v3 : Int)) (a3) (a2)  y0_0 N c0  1 rfl (by decide) (by decide))) Zh) rfl (by decide) (by rfl) rr trivial
  ·
   exact Mach.ok_next (M := ZJ a0 a1 a2 a3 N) (cd := 1000000) (cm := 0) (y := (.h1m3 (v1) (v2) (v3) : Zs)) (fu := 4000) (orc := (Zk [(1, false)] [] [] [] [(0, (Zc1 ((v3 : Int)) (a3) (a2)  y0_0  1))])) (live := [0]) (tv := fun _ => [some (vp 0 0), some (vi a3), some (Value.agg #[vi (v1 : Int), vi (v2 : Int), vi (v3 : Int)]), some (vi (3 : Int))]) (bl := [some (.cells [vi a1, vi a2, vi a3] 70)]) (ob := [((!y0_0), false), (dP (Zca #[vi (v3 : Int), vi a3, vi a2] ((v3 : Int)) (a3) (a2)  y0_0  1), true)]) rfl (show 1 ∈ ZQ (ZiF 1) from by decide +kernel) (fun gv => by kernel_rfl) (Zc (Zqx (by first | assumption | simp_all)) <| Zc (Zg (Zc2 #[vi (v3 : Int), vi a3, vi a2] ((v3 : Int)) (a3) (a2)  y0_0 N c0  1 rfl (by decide) (by decide))) Zh) rfl (by decide) (by rfl) (fun _ => ⟨rr, ⟨rr, ⟨rr, ⟨rr, trivial⟩⟩⟩⟩) ⟨⟨rfl, ⟨[], by rfl⟩, by rfl⟩, trivial⟩

theorem Znb (a0 a1 a2 a3 : Int) (v1 v2 v3 N : Nat) : (ZJ a0 a1 a2 a3 N).Ok Try.prog Z8 (.h1m3 v1 v2 v3 : Zs) (Zcj a0 a1 a2 a3 N (.h1m3 v1 v2 v3 : Zs)) := by
 show (ZJ a0 a1 a2 a3 N).Ok Try.prog Z8 (.h1m3 v1 v2 v3 : Zs) (Ze7 a0 a1 a2 a3 N v1 v2 v3)
 unfold Ze7
 exact Mach.ok_fin (M := ZJ a0 a1 a2 a3 N) (cd := 1000000) (cm := 0) (r := (.r0 ((0 : Int)) : Za8)) (fu := 4000) (orc := (Zk [] [] [] [] [])) (live := []) (u := vi (0 : Int)) (bl := []) (ob := []) (fun gv => by kernel_rfl) Zh rfl (by decide) (by rfl) rr trivial

theorem Zo6 (a0 a1 a2 a3 : Int) (N : Nat) : (ZJ a0 a1 a2 a3 N).Enter Try.prog Z8 #[Value.agg #[vi a0, vi a1, vi a2, vi a3]] (ZeC a0 a1 a2 a3 N) := by
 unfold ZeC
 refine Mach.en_bind (fun z0 c0 => ?_)
 cases z0 with
 | r0 =>
  exact Mach.en_fin (M := ZJ a0 a1 a2 a3 N) (cd := 1000000) (cm := 0) (r := (.r0 ((100 : Int)) : Za8)) (fu := 4000) (orc := (Zk [] [] [] [] [(0, (Zqy (a0)    1))])) (live := []) (u := vi (100 : Int)) (bl := []) (ob := [(dP (Zme #[vi a0] (a0)    1), true)]) (by kernel_rfl) (Zc (Zg (Zqz #[vi a0] (a0)   N c0  1 rfl (by decide) (by decide))) Zh) rfl (by decide) (by rfl) rr trivial
 | r1 =>
  exact Mach.en_head (bK := Z5 1) (M := ZJ a0 a1 a2 a3 N) (cd := 1000000) (cm := 0) (y := (.h1m0 (1) (6) (0) : Zs)) (fu := 4000) (orc := (Zk [] [] [] [] [(0, (Zq0 (a0)    1))])) (live := [2]) (tv := [some (vp 2 0), some (vi (0 : Int)), some (Value.agg #[vi (1 : Int), vi (6 : Int), vi (0 : Int)]), some (vi (0 : Int))]) (bl := [some (.cells [vi a1, vi a2, vi a3] 70)]) (ob := [(dP (Zmf #[vi a0] (a0)    1), true)]) rfl rfl (show ZQ (Z5 1).2 = [] from rfl) (by kernel_rfl) (Zc (Zg (Zq1 #[vi a0] (a0)   N c0  1 rfl (by decide) (by decide))) Zh) rfl (by decide) (by rfl) ⟨rr, ⟨rr, ⟨⟨Eq.trans (show (Value.agg #[vi ((1 : Nat) : Int), vi ((6 : Nat) : Int), vi ((0 : Nat) : Int)] : Value) = Value.agg #[vi (1 : Int), vi (6 : Int), vi (0 : Int)] from (Zcv (Zb (congrArg (Value.int .i64) (by first | rfl | omega)) (Zb (congrArg (Value.int .i64) (by first | rfl | omega)) (Zb (congrArg (Value.int .i64) (by first | rfl | omega)) rfl))))) (by rfl), by rfl⟩, ⟨rr, trivial⟩⟩⟩⟩ ⟨⟨rfl, ⟨[], by rfl⟩, by rfl⟩, trivial⟩
 | r2 =>
  exact Mach.en_head (bK := Z5 1) (M := ZJ a0 a1 a2 a3 N) (cd := 1000000) (cm := 0) (y := (.h1m0 (1) (0) (0) : Zs)) (fu := 4000) (orc := (Zk [] [] [] [] [(0, (Zq2 (a0)    1))])) (live := [2]) (tv := [some (vp 2 0), some (vi (0 : Int)), some (Value.agg #[vi (1 : Int), vi (0 : Int), vi (0 : Int)]), some (vi (0 : Int))]) (bl := [some (.cells [vi a1, vi a2, vi a3] 70)]) (ob := [(dP (Zmg #[vi a0] (a0)    1), true)]) rfl rfl (show ZQ (Z5 1).2 = [] from rfl) (by kernel_rfl) (Zc (Zg (Zq3 #[vi a0] (a0)   N c0  1 rfl (by decide) (by decide))) Zh) rfl (by decide) (by rfl) ⟨rr, ⟨rr, ⟨⟨Eq.trans (show (Value.agg #[vi ((1 : Nat) : Int), vi ((0 : Nat) : Int), vi ((0 : Nat) : Int)] : Value) = Value.agg #[vi (1 : Int), vi (0 : Int), vi (0 : Int)] from (Zcv (Zb (congrArg (Value.int .i64) (by first | rfl | omega)) (Zb (congrArg (Value.int .i64) (by first | rfl | omega)) (Zb (congrArg (Value.int .i64) (by first | rfl | omega)) rfl))))) (by rfl), by rfl⟩, ⟨rr, trivial⟩⟩⟩⟩ ⟨⟨rfl, ⟨[], by rfl⟩, by rfl⟩, trivial⟩
 | r3 =>
  exact Mach.en_head (bK := Z5 1) (M := ZJ a0 a1 a2 a3 N) (cd := 1000000) (cm := 0) (y := (.h1m0 (1) (1) (0) : Zs)) (fu := 4000) (orc := (Zk [] [] [] [] [(0, (Zq4 (a0)    1))])) (live := [2]) (tv := [some (vp 2 0), some (vi (0 : Int)), some (Value.agg #[vi (1 : Int), vi (1 : Int), vi (0 : Int)]), some (vi (0 : Int))]) (bl := [some (.cells [vi a1, vi a2, vi a3] 70)]) (ob := [(dP (Zmh #[vi a0] (a0)    1), true)]) rfl rfl (show ZQ (Z5 1).2 = [] from rfl) (by kernel_rfl) (Zc (Zg (Zq5 #[vi a0] (a0)   N c0  1 rfl (by decide) (by decide))) Zh) rfl (by decide) (by rfl) ⟨rr, ⟨rr, ⟨⟨Eq.trans (show (Value.agg #[vi ((1 : Nat) : Int), vi ((1 : Nat) : Int), vi ((0 : Nat) : Int)] : Value) = Value.agg #[vi (1 : Int), vi (1 : Int), vi (0 : Int)] from (Zcv (Zb (congrArg (Value.int .i64) (by first | rfl | omega)) (Zb (congrArg (Value.int .i64) (by first | rfl | omega)) (Zb (congrArg (Value.int .i64) (by first | rfl | omega)) rfl))))) (by rfl), by rfl⟩, ⟨rr, trivial⟩⟩⟩⟩ ⟨⟨rfl, ⟨[], by rfl⟩, by rfl⟩, trivial⟩
 | r4 =>
  exact Mach.en_head (bK := Z5 1) (M := ZJ a0 a1 a2 a3 N) (cd := 1000000) (cm := 0) (y := (.h1m0 (1) (1) (1) : Zs)) (fu := 4000) (orc := (Zk [] [] [] [] [(0, (Zq6 (a0)    1))])) (live := [2]) (tv := [some (vp 2 0), some (vi (0 : Int)), some (Value.agg #[vi (1 : Int), vi (1 : Int), vi (1 : Int)]), some (vi (0 : Int))]) (bl := [some (.cells [vi a1, vi a2, vi a3] 70)]) (ob := [(dP (Zmi #[vi a0] (a0)    1), true)]) rfl rfl (show ZQ (Z5 1).2 = [] from rfl) (by kernel_rfl) (Zc (Zg (Zq7 #[vi a0] (a0)   N c0  1 rfl (by decide) (by decide))) Zh) rfl (by decide) (by rfl) ⟨rr, ⟨rr, ⟨⟨Eq.trans (show (Value.agg #[vi ((1 : Nat) : Int), vi ((1 : Nat) : Int), vi ((1 : Nat) : Int)] : Value) = Value.agg #[vi (1 : Int), vi (1 : Int), vi (1 : Int)] from (Zcv (Zb (congrArg (Value.int .i64) (by first | rfl | omega)) (Zb (congrArg (Value.int .i64) (by first | rfl | omega)) (Zb (congrArg (Value.int .i64) (by first | rfl | omega)) rfl))))) (by rfl), by rfl⟩, ⟨rr, trivial⟩⟩⟩⟩ ⟨⟨rfl, ⟨[], by rfl⟩, by rfl⟩, trivial⟩
 | r5 =>
  exact Mach.en_head (bK := Z5 1) (M := ZJ a0 a1 a2 a3 N) (cd := 1000000) (cm := 0) (y := (.h1m0 (1) (1) (1) : Zs)) (fu := 4000) (orc := (Zk [] [] [] [] [(0, (Zq8 (a0)    1))])) (live := [2]) (tv := [some (vp 2 0), some (vi (0 : Int)), some (Value.agg #[vi (1 : Int), vi (1 : Int), vi (1 : Int)]), some (vi (0 : Int))]) (bl := [some (.cells [vi a1, vi a2, vi a3] 70)]) (ob := [(dP (Zmj #[vi a0] (a0)    1), true)]) rfl rfl (show ZQ (Z5 1).2 = [] from rfl) (by kernel_rfl) (Zc (Zg (Zq9 #[vi a0] (a0)   N c0  1 rfl (by decide) (by decide))) Zh) rfl (by decide) (by rfl) ⟨rr, ⟨rr, ⟨⟨Eq.trans (show (Value.agg #[vi ((1 : Nat) : Int), vi ((1 : Nat) : Int), vi ((1 : Nat) : Int)] : Value) = Value.agg #[vi (1 : Int), vi (1 : Int), vi (1 : Int)] from (Zcv (Zb (congrArg (Value.int .i64) (by first | rfl | omega)) (Zb (congrArg (Value.int .i64) (by first | rfl | omega)) (Zb (congrArg (Value.int .i64) (by first | rfl | omega)) rfl))))) (by rfl), by rfl⟩, ⟨rr, trivial⟩⟩⟩⟩ ⟨⟨rfl, ⟨[], by rfl⟩, by rfl⟩, trivial⟩
 | r6 =>
  exact Mach.en_head (bK := Z5 1) (M := ZJ a0 a1 a2 a3 N) (cd := 1000000) (cm := 0) (y := (.h1m0 (1) (1) (1) : Zs)) (fu := 4000) (orc := (Zk [] [] [] [] [(0, (ZqA (a0)    1))])) (live := [2]) (tv := [some (vp 2 0), some (vi (0 : Int)), some (Value.agg #[vi (1 : Int), vi (1 : Int), vi (1 : Int)]), some (vi (0 : Int))]) (bl := [some (.cells [vi a1, vi a2, vi a3] 70)]) (ob := [(dP (Zmk #[vi a0] (a0)    1), true)]) rfl rfl (show ZQ (Z5 1).2 = [] from rfl) (by kernel_rfl) (Zc (Zg (ZqB #[vi a0] (a0)   N c0  1 rfl (by decide) (by decide))) Zh) rfl (by decide) (by rfl) ⟨rr, ⟨rr, ⟨⟨Eq.trans (show (Value.agg #[vi ((1 : Nat) : Int), vi ((1 : Nat) : Int), vi ((1 : Nat) : Int)] : Value) = Value.agg #[vi (1 : Int), vi (1 : Int), vi (1 : Int)] from (Zcv (Zb (congrArg (Value.int .i64) (by first | rfl | omega)) (Zb (congrArg (Value.int .i64) (by first | rfl | omega)) (Zb (congrArg (Value.int .i64) (by first | rfl | omega)) rfl))))) (by rfl), by rfl⟩, ⟨rr, trivial⟩⟩⟩⟩ ⟨⟨rfl, ⟨[], by rfl⟩, by rfl⟩, trivial⟩
 | r7 =>
  exact Mach.en_head (bK := Z5 1) (M := ZJ a0 a1 a2 a3 N) (cd := 1000000) (cm := 0) (y := (.h1m0 (1) (1) (1) : Zs)) (fu := 4000) (orc := (Zk [] [] [] [] [(0, (ZqC (a0)    1))])) (live := [2]) (tv := [some (vp 2 0), some (vi (0 : Int)), some (Value.agg #[vi (1 : Int), vi (1 : Int), vi (1 : Int)]), some (vi (0 : Int))]) (bl := [some (.cells [vi a1, vi a2, vi a3] 70)]) (ob := [(dP (Zml #[vi a0] (a0)    1), true)]) rfl rfl (show ZQ (Z5 1).2 = [] from rfl) (by kernel_rfl) (Zc (Zg (ZqD #[vi a0] (a0)   N c0  1 rfl (by decide) (by decide))) Zh) rfl (by decide) (by rfl) ⟨rr, ⟨rr, ⟨⟨Eq.trans (show (Value.agg #[vi ((1 : Nat) : Int), vi ((1 : Nat) : Int), vi ((1 : Nat) : Int)] : Value) = Value.agg #[vi (1 : Int), vi (1 : Int), vi (1 : Int)] from (Zcv (Zb (congrArg (Value.int .i64) (by first | rfl | omega)) (Zb (congrArg (Value.int .i64) (by first | rfl | omega)) (Zb (congrArg (Value.int .i64) (by first | rfl | omega)) rfl))))) (by rfl), by rfl⟩, ⟨rr, trivial⟩⟩⟩⟩ ⟨⟨rfl, ⟨[], by rfl⟩, by rfl⟩, trivial⟩
 | r8 =>
  exact Mach.en_head (bK := Z5 1) (M := ZJ a0 a1 a2 a3 N) (cd := 1000000) (cm := 0) (y := (.h1m0 (4) (0) (0) : Zs)) (fu := 4000) (orc := (Zk [] [] [] [] [(0, (ZqE (a0)    1))])) (live := [2]) (tv := [some (vp 2 0), some (vi (0 : Int)), some (Value.agg #[vi (4 : Int), vi (0 : Int), vi (0 : Int)]), some (vi (0 : Int))]) (bl := [some (.cells [vi a1, vi a2, vi a3] 70)]) (ob := [(dP (Zmm #[vi a0] (a0)    1), true)]) rfl rfl (show ZQ (Z5 1).2 = [] from rfl) (by kernel_rfl) (Zc (Zg (ZqF #[vi a0] (a0)   N c0  1 rfl (by decide) (by decide))) Zh) rfl (by decide) (by rfl) ⟨rr, ⟨rr, ⟨⟨Eq.trans (show (Value.agg #[vi ((4 : Nat) : Int), vi ((0 : Nat) : Int), vi ((0 : Nat) : Int)] : Value) = Value.agg #[vi (4 : Int), vi (0 : Int), vi (0 : Int)] from (Zcv (Zb (congrArg (Value.int .i64) (by first | rfl | omega)) (Zb (congrArg (Value.int .i64) (by first | rfl | omega)) (Zb (congrArg (Value.int .i64) (by first | rfl | omega)) rfl))))) (by rfl), by rfl⟩, ⟨rr, trivial⟩⟩⟩⟩ ⟨⟨rfl, ⟨[], by rfl⟩, by rfl⟩, trivial⟩
 | r9 =>
  exact Mach.en_head (bK := Z5 1) (M := ZJ a0 a1 a2 a3 N) (cd := 1000000) (cm := 0) (y := (.h1m0 (1) (4) (0) : Zs)) (fu := 4000) (orc := (Zk [] [] [] [] [(0, (ZqG (a0)    1))])) (live := [2]) (tv := [some (vp 2 0), some (vi (0 : Int)), some (Value.agg #[vi (1 : Int), vi (4 : Int), vi (0 : Int)]), some (vi (0 : Int))]) (bl := [some (.cells [vi a1, vi a2, vi a3] 70)]) (ob := [(dP (Zmn #[vi a0] (a0)    1), true)]) rfl rfl (show ZQ (Z5 1).2 = [] from rfl) (by kernel_rfl) (Zc (Zg (ZqH #[vi a0] (a0)   N c0  1 rfl (by decide) (by decide))) Zh) rfl (by decide) (by rfl) ⟨rr, ⟨rr, ⟨⟨Eq.trans (show (Value.agg #[vi ((1 : Nat) : Int), vi ((4 : Nat) : Int), vi ((0 : Nat) : Int)] : Value) = Value.agg #[vi (1 : Int), vi (4 : Int), vi (0 : Int)] from (Zcv (Zb (congrArg (Value.int .i64) (by first | rfl | omega)) (Zb (congrArg (Value.int .i64) (by first | rfl | omega)) (Zb (congrArg (Value.int .i64) (by first | rfl | omega)) rfl))))) (by rfl), by rfl⟩, ⟨rr, trivial⟩⟩⟩⟩ ⟨⟨rfl, ⟨[], by rfl⟩, by rfl⟩, trivial⟩
 | r10 =>
  exact Mach.en_head (bK := Z5 1) (M := ZJ a0 a1 a2 a3 N) (cd := 1000000) (cm := 0) (y := (.h1m0 (1) (0) (0) : Zs)) (fu := 4000) (orc := (Zk [] [] [] [] [(0, (Zpl (a0)    1))])) (live := [2]) (tv := [some (vp 2 0), some (vi (0 : Int)), some (Value.agg #[vi (1 : Int), vi (0 : Int), vi (0 : Int)]), some (vi (0 : Int))]) (bl := [some (.cells [vi a1, vi a2, vi a3] 70)]) (ob := [(dP (ZkG #[vi a0] (a0)    1), true)]) rfl rfl (show ZQ (Z5 1).2 = [] from rfl) (by kernel_rfl) (Zc (Zg (Zpm #[vi a0] (a0)   N c0  1 rfl (by decide) (by decide))) Zh) rfl (by decide) (by rfl) ⟨rr, ⟨rr, ⟨⟨Eq.trans (show (Value.agg #[vi ((1 : Nat) : Int), vi ((0 : Nat) : Int), vi ((0 : Nat) : Int)] : Value) = Value.agg #[vi (1 : Int), vi (0 : Int), vi (0 : Int)] from (Zcv (Zb (congrArg (Value.int .i64) (by first | rfl | omega)) (Zb (congrArg (Value.int .i64) (by first | rfl | omega)) (Zb (congrArg (Value.int .i64) (by first | rfl | omega)) rfl))))) (by rfl), by rfl⟩, ⟨rr, trivial⟩⟩⟩⟩ ⟨⟨rfl, ⟨[], by rfl⟩, by rfl⟩, trivial⟩
 | r11 =>
  exact Mach.en_head (bK := Z5 1) (M := ZJ a0 a1 a2 a3 N) (cd := 1000000) (cm := 0) (y := (.h1m0 (1) (3) (5) : Zs)) (fu := 4000) (orc := (Zk [] [] [] [] [(0, (Zpn (a0)    1))])) (live := [2]) (tv := [some (vp 2 0), some (vi (0 : Int)), some (Value.agg #[vi (1 : Int), vi (3 : Int), vi (5 : Int)]), some (vi (0 : Int))]) (bl := [some (.cells [vi a1, vi a2, vi a3] 70)]) (ob := [(dP (ZkH #[vi a0] (a0)    1), true)]) rfl rfl (show ZQ (Z5 1).2 = [] from rfl) (by kernel_rfl) (Zc (Zg (Zpo #[vi a0] (a0)   N c0  1 rfl (by decide) (by decide))) Zh) rfl (by decide) (by rfl) ⟨rr, ⟨rr, ⟨⟨Eq.trans (show (Value.agg #[vi ((1 : Nat) : Int), vi ((3 : Nat) : Int), vi ((5 : Nat) : Int)] : Value) = Value.agg #[vi (1 : Int), vi (3 : Int), vi (5 : Int)] from (Zcv (Zb (congrArg (Value.int .i64) (by first | rfl | omega)) (Zb (congrArg (Value.int .i64) (by first | rfl | omega)) (Zb (congrArg (Value.int .i64) (by first | rfl | omega)) rfl))))) (by rfl), by rfl⟩, ⟨rr, trivial⟩⟩⟩⟩ ⟨⟨rfl, ⟨[], by rfl⟩, by rfl⟩, trivial⟩
 | r12 =>
  exact Mach.en_head (bK := Z5 1) (M := ZJ a0 a1 a2 a3 N) (cd := 1000000) (cm := 0) (y := (.h1m0 (1) (0) (0) : Zs)) (fu := 4000) (orc := (Zk [] [] [] [] [(0, (Zpp (a0)    1))])) (live := [2]) (tv := [some (vp 2 0), some (vi (0 : Int)), some (Value.agg #[vi (1 : Int), vi (0 : Int), vi (0 : Int)]), some (vi (0 : Int))]) (bl := [some (.cells [vi a1, vi a2, vi a3] 70)]) (ob := [(dP (ZkI #[vi a0] (a0)    1), true)]) rfl rfl (show ZQ (Z5 1).2 = [] from rfl) (by kernel_rfl) (Zc (Zg (Zpq #[vi a0] (a0)   N c0  1 rfl (by decide) (by decide))) Zh) rfl (by decide) (by rfl) ⟨rr, ⟨rr, ⟨⟨Eq.trans (show (Value.agg #[vi ((1 : Nat) : Int), vi ((0 : Nat) : Int), vi ((0 : Nat) : Int)] : Value) = Value.agg #[vi (1 : Int), vi (0 : Int), vi (0 : Int)] from (Zcv (Zb (congrArg (Value.int .i64) (by first | rfl | omega)) (Zb (congrArg (Value.int .i64) (by first | rfl | omega)) (Zb (congrArg (Value.int .i64) (by first | rfl | omega)) rfl))))) (by rfl), by rfl⟩, ⟨rr, trivial⟩⟩⟩⟩ ⟨⟨rfl, ⟨[], by rfl⟩, by rfl⟩, trivial⟩
 | r13 =>
  exact Mach.en_head (bK := Z5 1) (M := ZJ a0 a1 a2 a3 N) (cd := 1000000) (cm := 0) (y := (.h1m0 (1) (1) (2) : Zs)) (fu := 4000) (orc := (Zk [] [] [] [] [(0, (Zpr (a0)    1))])) (live := [2]) (tv := [some (vp 2 0), some (vi (0 : Int)), some (Value.agg #[vi (1 : Int), vi (1 : Int), vi (2 : Int)]), some (vi (0 : Int))]) (bl := [some (.cells [vi a1, vi a2, vi a3] 70)]) (ob := [(dP (ZkJ #[vi a0] (a0)    1), true)]) rfl rfl (show ZQ (Z5 1).2 = [] from rfl) (by kernel_rfl) (Zc (Zg (Zps #[vi a0] (a0)   N c0  1 rfl (by decide) (by decide))) Zh) rfl (by decide) (by rfl) ⟨rr, ⟨rr, ⟨⟨Eq.trans (show (Value.agg #[vi ((1 : Nat) : Int), vi ((1 : Nat) : Int), vi ((2 : Nat) : Int)] : Value) = Value.agg #[vi (1 : Int), vi (1 : Int), vi (2 : Int)] from (Zcv (Zb (congrArg (Value.int .i64) (by first | rfl | omega)) (Zb (congrArg (Value.int .i64) (by first | rfl | omega)) (Zb (congrArg (Value.int .i64) (by first | rfl | omega)) rfl))))) (by rfl), by rfl⟩, ⟨rr, trivial⟩⟩⟩⟩ ⟨⟨rfl, ⟨[], by rfl⟩, by rfl⟩, trivial⟩
 | r14 =>
  exact Mach.en_head (bK := Z5 1) (M := ZJ a0 a1 a2 a3 N) (cd := 1000000) (cm := 0) (y := (.h1m0 (1) (2) (1) : Zs)) (fu := 4000) (orc := (Zk [] [] [] [] [(0, (Zpt (a0)    1))])) (live := [2]) (tv := [some (vp 2 0), some (vi (0 : Int)), some (Value.agg #[vi (1 : Int), vi (2 : Int), vi (1 : Int)]), some (vi (0 : Int))]) (bl := [some (.cells [vi a1, vi a2, vi a3] 70)]) (ob := [(dP (ZkK #[vi a0] (a0)    1), true)]) rfl rfl (show ZQ (Z5 1).2 = [] from rfl) (by kernel_rfl) (Zc (Zg (Zpu #[vi a0] (a0)   N c0  1 rfl (by decide) (by decide))) Zh) rfl (by decide) (by rfl) ⟨rr, ⟨rr, ⟨⟨Eq.trans (show (Value.agg #[vi ((1 : Nat) : Int), vi ((2 : Nat) : Int), vi ((1 : Nat) : Int)] : Value) = Value.agg #[vi (1 : Int), vi (2 : Int), vi (1 : Int)] from (Zcv (Zb (congrArg (Value.int .i64) (by first | rfl | omega)) (Zb (congrArg (Value.int .i64) (by first | rfl | omega)) (Zb (congrArg (Value.int .i64) (by first | rfl | omega)) rfl))))) (by rfl), by rfl⟩, ⟨rr, trivial⟩⟩⟩⟩ ⟨⟨rfl, ⟨[], by rfl⟩, by rfl⟩, trivial⟩
 | r15 =>
  exact Mach.en_head (bK := Z5 1) (M := ZJ a0 a1 a2 a3 N) (cd := 1000000) (cm := 0) (y := (.h1m0 (0) (0) (0) : Zs)) (fu := 4000) (orc := (Zk [] [] [] [] [(0, (Zpv (a0)    1))])) (live := [2]) (tv := [some (vp 2 0), some (vi (0 : Int)), some (Value.agg #[vi (0 : Int), vi (0 : Int), vi (0 : Int)]), some (vi (0 : Int))]) (bl := [some (.cells [vi a1, vi a2, vi a3] 70)]) (ob := [(dP (ZkL #[vi a0] (a0)    1), true)]) rfl rfl (show ZQ (Z5 1).2 = [] from rfl) (by kernel_rfl) (Zc (Zg (Zpw #[vi a0] (a0)   N c0  1 rfl (by decide) (by decide))) Zh) rfl (by decide) (by rfl) ⟨rr, ⟨rr, ⟨⟨Eq.trans (show (Value.agg #[vi ((0 : Nat) : Int), vi ((0 : Nat) : Int), vi ((0 : Nat) : Int)] : Value) = Value.agg #[vi (0 : Int), vi (0 : Int), vi (0 : Int)] from (Zcv (Zb (congrArg (Value.int .i64) (by first | rfl | omega)) (Zb (congrArg (Value.int .i64) (by first | rfl | omega)) (Zb (congrArg (Value.int .i64) (by first | rfl | omega)) rfl))))) (by rfl), by rfl⟩, ⟨rr, trivial⟩⟩⟩⟩ ⟨⟨rfl, ⟨[], by rfl⟩, by rfl⟩, trivial⟩
 | r16 =>
  exact Mach.en_head (bK := Z5 1) (M := ZJ a0 a1 a2 a3 N) (cd := 1000000) (cm := 0) (y := (.h1m0 (0) (0) (0) : Zs)) (fu := 4000) (orc := (Zk [] [] [] [] [(0, (Zpx (a0)    1))])) (live := [2]) (tv := [some (vp 2 0), some (vi (0 : Int)), some (Value.agg #[vi (0 : Int), vi (0 : Int), vi (0 : Int)]), some (vi (0 : Int))]) (bl := [some (.cells [vi a1, vi a2, vi a3] 70)]) (ob := [(dP (ZkM #[vi a0] (a0)    1), true)]) rfl rfl (show ZQ (Z5 1).2 = [] from rfl) (by kernel_rfl) (Zc (Zg (Zpy #[vi a0] (a0)   N c0  1 rfl (by decide) (by decide))) Zh) rfl (by decide) (by rfl) ⟨rr, ⟨rr, ⟨⟨Eq.trans (show (Value.agg #[vi ((0 : Nat) : Int), vi ((0 : Nat) : Int), vi ((0 : Nat) : Int)] : Value) = Value.agg #[vi (0 : Int), vi (0 : Int), vi (0 : Int)] from (Zcv (Zb (congrArg (Value.int .i64) (by first | rfl | omega)) (Zb (congrArg (Value.int .i64) (by first | rfl | omega)) (Zb (congrArg (Value.int .i64) (by first | rfl | omega)) rfl))))) (by rfl), by rfl⟩, ⟨rr, trivial⟩⟩⟩⟩ ⟨⟨rfl, ⟨[], by rfl⟩, by rfl⟩, trivial⟩
 | r17 =>
  exact Mach.en_head (bK := Z5 1) (M := ZJ a0 a1 a2 a3 N) (cd := 1000000) (cm := 0) (y := (.h1m0 (0) (0) (0) : Zs)) (fu := 4000) (orc := (Zk [] [] [] [] [(0, (Zpz (a0)    1))])) (live := [2]) (tv := [some (vp 2 0), some (vi (0 : Int)), some (Value.agg #[vi (0 : Int), vi (0 : Int), vi (0 : Int)]), some (vi (0 : Int))]) (bl := [some (.cells [vi a1, vi a2, vi a3] 70)]) (ob := [(dP (ZkN #[vi a0] (a0)    1), true)]) rfl rfl (show ZQ (Z5 1).2 = [] from rfl) (by kernel_rfl) (Zc (Zg (Zp0 #[vi a0] (a0)   N c0  1 rfl (by decide) (by decide))) Zh) rfl (by decide) (by rfl) ⟨rr, ⟨rr, ⟨⟨Eq.trans (show (Value.agg #[vi ((0 : Nat) : Int), vi ((0 : Nat) : Int), vi ((0 : Nat) : Int)] : Value) = Value.agg #[vi (0 : Int), vi (0 : Int), vi (0 : Int)] from (Zcv (Zb (congrArg (Value.int .i64) (by first | rfl | omega)) (Zb (congrArg (Value.int .i64) (by first | rfl | omega)) (Zb (congrArg (Value.int .i64) (by first | rfl | omega)) rfl))))) (by rfl), by rfl⟩, ⟨rr, trivial⟩⟩⟩⟩ ⟨⟨rfl, ⟨[], by rfl⟩, by rfl⟩, trivial⟩
 | r18 =>
  exact Mach.en_head (bK := Z5 1) (M := ZJ a0 a1 a2 a3 N) (cd := 1000000) (cm := 0) (y := (.h1m0 (0) (0) (0) : Zs)) (fu := 4000) (orc := (Zk [] [] [] [] [(0, (Zp1 (a0)    1))])) (live := [2]) (tv := [some (vp 2 0), some (vi (0 : Int)), some (Value.agg #[vi (0 : Int), vi (0 : Int), vi (0 : Int)]), some (vi (0 : Int))]) (bl := [some (.cells [vi a1, vi a2, vi a3] 70)]) (ob := [(dP (ZkO #[vi a0] (a0)    1), true)]) rfl rfl (show ZQ (Z5 1).2 = [] from rfl) (by kernel_rfl) (Zc (Zg (Zp2 #[vi a0] (a0)   N c0  1 rfl (by decide) (by decide))) Zh) rfl (by decide) (by rfl) ⟨rr, ⟨rr, ⟨⟨Eq.trans (show (Value.agg #[vi ((0 : Nat) : Int), vi ((0 : Nat) : Int), vi ((0 : Nat) : Int)] : Value) = Value.agg #[vi (0 : Int), vi (0 : Int), vi (0 : Int)] from (Zcv (Zb (congrArg (Value.int .i64) (by first | rfl | omega)) (Zb (congrArg (Value.int .i64) (by first | rfl | omega)) (Zb (congrArg (Value.int .i64) (by first | rfl | omega)) rfl))))) (by rfl), by rfl⟩, ⟨rr, trivial⟩⟩⟩⟩ ⟨⟨rfl, ⟨[], by rfl⟩, by rfl⟩, trivial⟩
 | r19 =>
  exact Mach.en_head (bK := Z5 1) (M := ZJ a0 a1 a2 a3 N) (cd := 1000000) (cm := 0) (y := (.h1m0 (1) (0) (0) : Zs)) (fu := 4000) (orc := (Zk [] [] [] [] [(0, (Zp3 (a0)    1))])) (live := [2]) (tv := [some (vp 2 0), some (vi (0 : Int)), some (Value.agg #[vi (1 : Int), vi (0 : Int), vi (0 : Int)]), some (vi (0 : Int))]) (bl := [some (.cells [vi a1, vi a2, vi a3] 70)]) (ob := [(dP (ZkP #[vi a0] (a0)    1), true)]) rfl rfl (show ZQ (Z5 1).2 = [] from rfl) (by kernel_rfl) (Zc (Zg (Zp4 #[vi a0] (a0)   N c0  1 rfl (by decide) (by decide))) Zh) rfl (by decide) (by rfl) ⟨rr, ⟨rr, ⟨⟨Eq.trans (show (Value.agg #[vi ((1 : Nat) : Int), vi ((0 : Nat) : Int), vi ((0 : Nat) : Int)] : Value) = Value.agg #[vi (1 : Int), vi (0 : Int), vi (0 : Int)] from (Zcv (Zb (congrArg (Value.int .i64) (by first | rfl | omega)) (Zb (congrArg (Value.int .i64) (by first | rfl | omega)) (Zb (congrArg (Value.int .i64) (by first | rfl | omega)) rfl))))) (by rfl), by rfl⟩, ⟨rr, trivial⟩⟩⟩⟩ ⟨⟨rfl, ⟨[], by rfl⟩, by rfl⟩, trivial⟩
 | r20 =>
  exact Mach.en_head (bK := Z5 1) (M := ZJ a0 a1 a2 a3 N) (cd := 1000000) (cm := 0) (y := (.h1m0 (0) (0) (0) : Zs)) (fu := 4000) (orc := (Zk [] [] [] [] [(0, (Zp5 (a0)    1))])) (live := [2]) (tv := [some (vp 2 0), some (vi (0 : Int)), some (Value.agg #[vi (0 : Int), vi (0 : Int), vi (0 : Int)]), some (vi (0 : Int))]) (bl := [some (.cells [vi a1, vi a2, vi a3] 70)]) (ob := [(dP (ZkQ #[vi a0] (a0)    1), true)]) rfl rfl (show ZQ (Z5 1).2 = [] from rfl) (by kernel_rfl) (Zc (Zg (Zp6 #[vi a0] (a0)   N c0  1 rfl (by decide) (by decide))) Zh) rfl (by decide) (by rfl) ⟨rr, ⟨rr, ⟨⟨Eq.trans (show (Value.agg #[vi ((0 : Nat) : Int), vi ((0 : Nat) : Int), vi ((0 : Nat) : Int)] : Value) = Value.agg #[vi (0 : Int), vi (0 : Int), vi (0 : Int)] from (Zcv (Zb (congrArg (Value.int .i64) (by first | rfl | omega)) (Zb (congrArg (Value.int .i64) (by first | rfl | omega)) (Zb (congrArg (Value.int .i64) (by first | rfl | omega)) rfl))))) (by rfl), by rfl⟩, ⟨rr, trivial⟩⟩⟩⟩ ⟨⟨rfl, ⟨[], by rfl⟩, by rfl⟩, trivial⟩

theorem ZnH (a0 a1 a2 a3 : Int) (N : Nat) (r : Za8) (h : Z2 a0 a1 a2 a3 N = some r) : LSpec Try.prog 41 #[Value.agg #[vi a0, vi a1, vi a2, vi a3]] [] (Zmo a0 a1 a2 a3 r) (ZkR a0 a1 a2 a3 r) :=
 Mach.spec Zax (ZJ a0 a1 a2 a3 N) Try.func41 (by kernel_rfl) (by kernel_rfl) (fun x => by cases x <;> exact Zaf _ rfl) (fun r => by cases r <;> exact Zaf _ rfl) (fun x => by
  cases x with
  | h1m0 _ _ _ => exact fun _ => (show ¬ (1 ∈ ZQ (Z5 1).2) from by decide +kernel)
  | h1m1 _ _ _ => exact fun _ => (show ¬ (1 ∈ ZQ (Z5 1).2) from by decide +kernel)
  | h1m2 _ _ _ => exact fun _ => (show ¬ (1 ∈ ZQ (Z5 1).2) from by decide +kernel)
  | h1m3 _ _ _ => exact fun _ => (show ¬ (1 ∈ ZQ (Z5 1).2) from by decide +kernel)
  ) (fun x => (show (ZJ a0 a1 a2 a3 N).Ok Try.prog Z8 x (Zcj a0 a1 a2 a3 N x) from by
  cases x with
  | h1m0 v1 v2 v3 => exact ZmY a0 a1 a2 a3 v1 v2 v3 N
  | h1m1 v1 v2 v3 => exact ZmZ a0 a1 a2 a3 v1 v2 v3 N
  | h1m2 v1 v2 v3 => exact Zna a0 a1 a2 a3 v1 v2 v3 N
  | h1m3 v1 v2 v3 => exact Znb a0 a1 a2 a3 v1 v2 v3 N
  )) (Zo6 a0 a1 a2 a3 N) (n := N) h

noncomputable def Zv (a0 a1 a2 a3 w0 : Int) (n : Nat) : Zag := .call [] (vi w0) [] 0
def Zu (A : Array Value) (a0 a1 a2 a3 w0 : Int) (n : Nat) : Prop := Zz Try.prog 41 A [] (vi w0) [] n 0

theorem Zw (A : Array Value) (a0 a1 a2 a3 w0 : Int) (N : Nat) (h : Z2 a0 a1 a2 a3 N = some (.r0 w0)) (n : Nat) (hA : A = #[Value.agg #[vi a0, vi a1, vi a2, vi a3]]) (hnd : ([] : List Nat).Nodup) (hlt : ∀ k ∈ ([] : List Nat), k < n) : Zu A a0 a1 a2 a3 w0  n :=
 Z7 hA (LSpec.callL (show LSpec Try.prog 41 #[Value.agg #[vi a0, vi a1, vi a2, vi a3]] [] (vi w0) [] from ZnH a0 a1 a2 a3 N _ h) [] n [] rfl hnd hlt (show 0 ≤ 0 from by decide) (show ∀ j ∈ ([] : List Nat), j < 0 from by decide) (by rfl) trivial (by rfl) trivial trivial rfl rfl rfl rfl rfl)

noncomputable def Zhz (a0 a1 a2 a3 : Int) (o4 : Nat) (L5 : List R_iiii) (n6 n7 : Nat) (a8 a9 a10 : Int) (O1 : Obj) : ZW → Value
 | .r0 w2 => vi w2
noncomputable def Zgy (a0 a1 a2 a3 : Int) (o4 : Nat) (L5 : List R_iiii) (n6 n7 : Nat) (a8 a9 a10 : Int) (O1 : Obj) : ZW → List (Option AObj)
 | .r0 w2 => [some (.cells [vn, vs 1 o4 n6 n7, vn, vn, vn, vi a8, vi a9, vi a10] 50), some (.ro O1)]

theorem Zk0 (a0 a1 a2 a3 : Int) (o4 : Nat) (L5 : List R_iiii) (n6 n7 : Nat) (a8 a9 a10 : Int) (O1 : Obj) (F1 : ZA O1 o4 L5) (N : Nat) : Fx Try.prog Z8 Try.f34 [.cells [vn, vs 1 o4 n6 n7, vn, vn, vn, vi a8, vi a9, vi a10] 50, .ro O1] #[vp 0 0, Value.agg #[vi a0, vi a1, vi a2, vi a3]] (Zhz a0 a1 a2 a3 o4 L5 n6 n7 a8 a9 a10 O1) (Zgy a0 a1 a2 a3 o4 L5 n6 n7 a8 a9 a10 O1) (Zch a0 a1 a2 a3 L5 n6 n7 a8 a9 a10 N) := by
 unfold Zch
 refine Zo (fun g0 => ?_) (fun g0 => ?_)
 ·
  refine ZZ (fun z1 c1 => ?_)
  cases z1 with
  | r0 y1_0 =>
   refine Zo (fun g2 => ?_) (fun g2 => ?_)
   ·
    exact Zn (r := (.r0 ((120 : Int)) : ZW)) (fu := 4000) (orc := (Zk [(0, true), (2, true)] [] [] [] [(0, (Zv (a0) (a1) (a2) (a3)  y1_0  3))])) (live := [0, 1]) (u := vi (120 : Int)) (bl := [some (.cells [vn, vs 1 o4 n6 n7, vn, vn, vn, vi a8, vi a9, vi a10] 50), some (.ro O1)]) (ob := [((y1_0 != (0 : Int)), true), (dP (Zu #[Value.agg #[vi a0, vi a1, vi a2, vi a3]] (a0) (a1) (a2) (a3)  y1_0  3), true), ((a0 == (15 : Int)), true)]) (by kernel_rfl) (oD <| Zc (Zg (Zw #[Value.agg #[vi a0, vi a1, vi a2, vi a3]] (a0) (a1) (a2) (a3)  y1_0 N c1  3 rfl (by decide) (by decide))) <| oT Zh) rfl (by decide) (by rfl) rr ⟨⟨rfl, ⟨[], by rfl⟩, by rfl⟩, ⟨rfl, trivial⟩⟩
   ·
    exact Zn (r := (.r0 ((0 : Int)) : ZW)) (fu := 4000) (orc := (Zk [(0, true), (2, false)] [] [] [] [(0, (Zv (a0) (a1) (a2) (a3)  y1_0  3))])) (live := [0, 1]) (u := vi (0 : Int)) (bl := [some (.cells [vn, vs 1 o4 n6 n7, vn, vn, vn, vi a8, vi a9, vi a10] 50), some (.ro O1)]) (ob := [((y1_0 != (0 : Int)), false), (dP (Zu #[Value.agg #[vi a0, vi a1, vi a2, vi a3]] (a0) (a1) (a2) (a3)  y1_0  3), true), ((a0 == (15 : Int)), true)]) (by kernel_rfl) (oE <| Zc (Zg (Zw #[Value.agg #[vi a0, vi a1, vi a2, vi a3]] (a0) (a1) (a2) (a3)  y1_0 N c1  3 rfl (by decide) (by decide))) <| oT Zh) rfl (by decide) (by rfl) rr ⟨⟨rfl, ⟨[], by rfl⟩, by rfl⟩, ⟨rfl, trivial⟩⟩
 ·
  refine Zo (fun g1 => ?_) (fun g1 => ?_)
  ·
   exact Zn (r := (.r0 ((120 : Int)) : ZW)) (fu := 4000) (orc := (Zk [(0, false), (1, true)] [] [] [] [])) (live := [0, 1]) (u := vi (120 : Int)) (bl := [some (.cells [vn, vs 1 o4 n6 n7, vn, vn, vn, vi a8, vi a9, vi a10] 50), some (.ro O1)]) (ob := [((a0 == (16 : Int)), true), ((a0 == (15 : Int)), false)]) (by kernel_rfl) (oT <| oF Zh) rfl (by decide) (by rfl) rr ⟨⟨rfl, ⟨[], by rfl⟩, by rfl⟩, ⟨rfl, trivial⟩⟩
  ·
   refine Zo (fun g2 => ?_) (fun g2 => ?_)
   ·
    exact Zn (r := (.r0 ((120 : Int)) : ZW)) (fu := 4000) (orc := (Zk [(0, false), (1, false), (2, true)] [] [] [] [])) (live := [0, 1]) (u := vi (120 : Int)) (bl := [some (.cells [vn, vs 1 o4 n6 n7, vn, vn, vn, vi a8, vi a9, vi a10] 50), some (.ro O1)]) (ob := [((a0 == (17 : Int)), true), ((a0 == (16 : Int)), false), ((a0 == (15 : Int)), false)]) (by kernel_rfl) (oT <| oF <| oF Zh) rfl (by decide) (by rfl) rr ⟨⟨rfl, ⟨[], by rfl⟩, by rfl⟩, ⟨rfl, trivial⟩⟩
   ·
    refine Zo (fun g3 => ?_) (fun g3 => ?_)
    ·
     exact Zn (r := (.r0 ((120 : Int)) : ZW)) (fu := 4000) (orc := (Zk [(0, false), (1, false), (2, false), (3, true)] [] [] [] [])) (live := [0, 1]) (u := vi (120 : Int)) (bl := [some (.cells [vn, vs 1 o4 n6 n7, vn, vn, vn, vi a8, vi a9, vi a10] 50), some (.ro O1)]) (ob := [((a0 == (18 : Int)), true), ((a0 == (17 : Int)), false), ((a0 == (16 : Int)), false), ((a0 == (15 : Int)), false)]) (by kernel_rfl) (oT <| oF <| oF <| oF Zh) rfl (by decide) (by rfl) rr ⟨⟨rfl, ⟨[], by rfl⟩, by rfl⟩, ⟨rfl, trivial⟩⟩
    ·
     by_cases g4 : a0 = (20 : Int)
     ·
      refine ZZ (fun z5 c5 => ?_)
      cases z5 with
      | r0 y5_0 =>
       refine Zo (fun g6 => ?_) (fun g6 => ?_)
       ·
        exact Zn (r := (.r0 ((120 : Int)) : ZW)) (fu := 4000) (orc := (Zk [(0, false), (1, false), (2, false), (3, false), (4, true), (6, true)] [] [] [] [(0, (Zv (a0) (a1) (a2) (a3)  y5_0  3))])) (live := [0, 1]) (u := vi (120 : Int)) (bl := [some (.cells [vn, vs 1 o4 n6 n7, vn, vn, vn, vi a8, vi a9, vi a10] 50), some (.ro O1)]) (ob := [((y5_0 != (0 : Int)), true), (dP (Zu #[Value.agg #[vi a0, vi a1, vi a2, vi a3]] (a0) (a1) (a2) (a3)  y5_0  3), true), ((a0 == (20 : Int)), true), ((a0 == (18 : Int)), false), ((a0 == (17 : Int)), false), ((a0 == (16 : Int)), false), ((a0 == (15 : Int)), false)]) (by kernel_rfl) (oD <| Zc (Zg (Zw #[Value.agg #[vi a0, vi a1, vi a2, vi a3]] (a0) (a1) (a2) (a3)  y5_0 N c5  3 rfl (by decide) (by decide))) <| oT <| oF <| oF <| oF <| oF Zh) rfl (by decide) (by rfl) rr ⟨⟨rfl, ⟨[], by rfl⟩, by rfl⟩, ⟨rfl, trivial⟩⟩
       ·
        exact Zn (r := (.r0 ((0 : Int)) : ZW)) (fu := 4000) (orc := (Zk [(0, false), (1, false), (2, false), (3, false), (4, true), (6, false)] [] [] [] [(0, (Zv (a0) (a1) (a2) (a3)  y5_0  3))])) (live := [0, 1]) (u := vi (0 : Int)) (bl := [some (.cells [vn, vs 1 o4 n6 n7, vn, vn, vn, vi a8, vi a9, vi a10] 50), some (.ro O1)]) (ob := [((y5_0 != (0 : Int)), false), (dP (Zu #[Value.agg #[vi a0, vi a1, vi a2, vi a3]] (a0) (a1) (a2) (a3)  y5_0  3), true), ((a0 == (20 : Int)), true), ((a0 == (18 : Int)), false), ((a0 == (17 : Int)), false), ((a0 == (16 : Int)), false), ((a0 == (15 : Int)), false)]) (by kernel_rfl) (oE <| Zc (Zg (Zw #[Value.agg #[vi a0, vi a1, vi a2, vi a3]] (a0) (a1) (a2) (a3)  y5_0 N c5  3 rfl (by decide) (by decide))) <| oT <| oF <| oF <| oF <| oF Zh) rfl (by decide) (by rfl) rr ⟨⟨rfl, ⟨[], by rfl⟩, by rfl⟩, ⟨rfl, trivial⟩⟩
     ·
      refine ZZ (fun z5 c5 => ?_)
      cases z5 with
      | r0 y5_0 =>
       refine Zo (fun g6 => ?_) (fun g6 => ?_)
       ·
        exact Zn (r := (.r0 ((120 : Int)) : ZW)) (fu := 4000) (orc := (Zk [(0, false), (1, false), (2, false), (3, false), (4, false), (5, true)] [] [] [] [(0, (Zv (a0) (a1) (a2) (a3)  y5_0  3))])) (live := [0, 1]) (u := vi (120 : Int)) (bl := [some (.cells [vn, vs 1 o4 n6 n7, vn, vn, vn, vi a8, vi a9, vi a10] 50), some (.ro O1)]) (ob := [((y5_0 != (0 : Int)), true), (dP (Zu #[Value.agg #[vi a0, vi a1, vi a2, vi a3]] (a0) (a1) (a2) (a3)  y5_0  3), true), ((a0 == (20 : Int)), false), ((a0 == (18 : Int)), false), ((a0 == (17 : Int)), false), ((a0 == (16 : Int)), false), ((a0 == (15 : Int)), false)]) (by kernel_rfl) (oD <| Zc (Zg (Zw #[Value.agg #[vi a0, vi a1, vi a2, vi a3]] (a0) (a1) (a2) (a3)  y5_0 N c5  3 rfl (by decide) (by decide))) <| oF <| oF <| oF <| oF <| oF Zh) rfl (by decide) (by rfl) rr ⟨⟨rfl, ⟨[], by rfl⟩, by rfl⟩, ⟨rfl, trivial⟩⟩
       ·
        exact Zn (r := (.r0 ((0 : Int)) : ZW)) (fu := 4000) (orc := (Zk [(0, false), (1, false), (2, false), (3, false), (4, false), (5, false)] [] [] [] [(0, (Zv (a0) (a1) (a2) (a3)  y5_0  3))])) (live := [0, 1]) (u := vi (0 : Int)) (bl := [some (.cells [vn, vs 1 o4 n6 n7, vn, vn, vn, vi a8, vi a9, vi a10] 50), some (.ro O1)]) (ob := [((y5_0 != (0 : Int)), false), (dP (Zu #[Value.agg #[vi a0, vi a1, vi a2, vi a3]] (a0) (a1) (a2) (a3)  y5_0  3), true), ((a0 == (20 : Int)), false), ((a0 == (18 : Int)), false), ((a0 == (17 : Int)), false), ((a0 == (16 : Int)), false), ((a0 == (15 : Int)), false)]) (by kernel_rfl) (oE <| Zc (Zg (Zw #[Value.agg #[vi a0, vi a1, vi a2, vi a3]] (a0) (a1) (a2) (a3)  y5_0 N c5  3 rfl (by decide) (by decide))) <| oF <| oF <| oF <| oF <| oF Zh) rfl (by decide) (by rfl) rr ⟨⟨rfl, ⟨[], by rfl⟩, by rfl⟩, ⟨rfl, trivial⟩⟩

theorem Zj1 (a0 a1 a2 a3 : Int) (o4 : Nat) (L5 : List R_iiii) (n6 n7 : Nat) (a8 a9 a10 : Int) (O1 : Obj) (F1 : ZA O1 o4 L5) (N : Nat) (r : ZW) (h : Zch a0 a1 a2 a3 L5 n6 n7 a8 a9 a10 N = some r) : LSpec Try.prog 34 #[vp 0 0, Value.agg #[vi a0, vi a1, vi a2, vi a3]] [.cells [vn, vs 1 o4 n6 n7, vn, vn, vn, vi a8, vi a9, vi a10] 50, .ro O1] (Zhz a0 a1 a2 a3 o4 L5 n6 n7 a8 a9 a10 O1 r) (Zgy a0 a1 a2 a3 o4 L5 n6 n7 a8 a9 a10 O1 r) :=
 ZaB Zax Try.func34 (by kernel_rfl) (by kernel_rfl) (fun r => by cases r <;> exact Zaf _ rfl) (Zk0 a0 a1 a2 a3 o4 L5 n6 n7 a8 a9 a10 O1 F1 N) h

noncomputable def ZeM (a0 a1 a2 a3 : Int) (o4 : Nat) (L5 : List R_iiii) (n6 n7 : Nat) (a8 a9 a10 : Int) (O1 : Obj) (w2 : Int) (k0 k1 n : Nat) : Zag := .call [(k0, .cells [vn, vs k1 o4 n6 n7, vn, vn, vn, vi a8, vi a9, vi a10] 50), (k1, .ro O1)] (vi w2) [] 0
def ZdD (A : Array Value) (a0 a1 a2 a3 : Int) (o4 : Nat) (L5 : List R_iiii) (n6 n7 : Nat) (a8 a9 a10 : Int) (O1 : Obj) (w2 : Int) (k0 k1 n : Nat) : Prop := Zz Try.prog 34 A [(k0, .cells [vn, vs k1 o4 n6 n7, vn, vn, vn, vi a8, vi a9, vi a10] 50), (k1, .ro O1)] (vi w2) [] n 0

theorem ZeN (A : Array Value) (a0 a1 a2 a3 : Int) (o4 : Nat) (L5 : List R_iiii) (n6 n7 : Nat) (a8 a9 a10 : Int) (O1 : Obj) (F1 : ZA O1 o4 L5) (w2 : Int) (N : Nat) (h : Zch a0 a1 a2 a3 L5 n6 n7 a8 a9 a10 N = some (.r0 w2)) (k0 k1 n : Nat) (hA : A = #[vp k0 0, Value.agg #[vi a0, vi a1, vi a2, vi a3]]) (hnd : ([k0, k1] : List Nat).Nodup) (hlt : ∀ k ∈ ([k0, k1] : List Nat), k < n) : ZdD A a0 a1 a2 a3 o4 L5 n6 n7 a8 a9 a10 O1 w2 k0 k1 n :=
 Z7 hA (LSpec.callL (show LSpec Try.prog 34 #[vp 0 0, Value.agg #[vi a0, vi a1, vi a2, vi a3]] [.cells [vn, vs 1 o4 n6 n7, vn, vn, vn, vi a8, vi a9, vi a10] 50, .ro O1] (vi w2) [some (.cells [vn, vs 1 o4 n6 n7, vn, vn, vn, vi a8, vi a9, vi a10] 50), some (.ro O1)] from Zj1 a0 a1 a2 a3 o4 L5 n6 n7 a8 a9 a10 O1 F1 N _ h) [k0, k1] n [] rfl hnd hlt (show 2 ≤ 2 from by decide) (show ∀ j ∈ ([] : List Nat), j < 2 from by decide) (by rfl) ⟨rfl, ⟨rfl, trivial⟩⟩ (by rfl) ⟨rfl, ⟨rfl, trivial⟩⟩ ⟨.inr rfl, ⟨.inr rfl, trivial⟩⟩ rfl rfl rfl (Zb (Zj rfl rfl) (Zb (Zj rfl rfl) rfl)) rfl)

noncomputable def Zgz (o0 : Nat) (L1 : List R_iiii) (n2 n3 : Nat) (a4 a5 a6 : Int) (O1 : Obj) : Zcn → Value
 | .r0 => Value.agg #[vi (-1 : Int), vi (0 : Int)]
noncomputable def Zgl (o0 : Nat) (L1 : List R_iiii) (n2 n3 : Nat) (a4 a5 a6 : Int) (O1 : Obj) : Zcn → List (Option AObj)
 | .r0 => [some (.cells [vn, vs 1 o0 n2 n3, vn, vn, vn, vi a4, vi a5, vi a6] 50), some (.ro O1)]

theorem ZjV (o0 : Nat) (L1 : List R_iiii) (n2 n3 : Nat) (a4 a5 a6 : Int) (O1 : Obj) (F1 : ZA O1 o0 L1) (N : Nat) : Fx Try.prog Z8 Try.f43 [.cells [vn, vs 1 o0 n2 n3, vn, vn, vn, vi a4, vi a5, vi a6] 50, .ro O1] #[vp 0 0] (Zgz o0 L1 n2 n3 a4 a5 a6 O1) (Zgl o0 L1 n2 n3 a4 a5 a6 O1) (Zda L1 n2 n3 a4 a5 a6 N) := by
 unfold Zda
 exact Zn (r := (.r0 : Zcn)) (fu := 4000) (orc := (Zk [] [] [] [] [])) (live := [0, 1]) (u := Value.agg #[vi (-1 : Int), vi (0 : Int)]) (bl := [some (.cells [vn, vs 1 o0 n2 n3, vn, vn, vn, vi a4, vi a5, vi a6] 50), some (.ro O1)]) (ob := []) (by kernel_rfl) Zh rfl (by decide) (by rfl) rr ⟨⟨rfl, ⟨[], by rfl⟩, by rfl⟩, ⟨rfl, trivial⟩⟩

theorem ZiQ (o0 : Nat) (L1 : List R_iiii) (n2 n3 : Nat) (a4 a5 a6 : Int) (O1 : Obj) (F1 : ZA O1 o0 L1) (N : Nat) (r : Zcn) (h : Zda L1 n2 n3 a4 a5 a6 N = some r) : LSpec Try.prog 43 #[vp 0 0] [.cells [vn, vs 1 o0 n2 n3, vn, vn, vn, vi a4, vi a5, vi a6] 50, .ro O1] (Zgz o0 L1 n2 n3 a4 a5 a6 O1 r) (Zgl o0 L1 n2 n3 a4 a5 a6 O1 r) :=
 ZaB Zax Try.func43 (by kernel_rfl) (by kernel_rfl) (fun r => by cases r <;> exact Zaf _ rfl) (ZjV o0 L1 n2 n3 a4 a5 a6 O1 F1 N) h

noncomputable def Zgm (o0 : Nat) (L1 : List R_iiii) (n2 n3 : Nat) (a4 a5 a6 : Int) (O1 : Obj) (k0 k1 n : Nat) : Zag := .call [(k0, .cells [vn, vs k1 o0 n2 n3, vn, vn, vn, vi a4, vi a5, vi a6] 50), (k1, .ro O1)] (Value.agg #[vi (-1 : Int), vi (0 : Int)]) [] 0
def Ze9 (A : Array Value) (o0 : Nat) (L1 : List R_iiii) (n2 n3 : Nat) (a4 a5 a6 : Int) (O1 : Obj) (k0 k1 n : Nat) : Prop := Zz Try.prog 43 A [(k0, .cells [vn, vs k1 o0 n2 n3, vn, vn, vn, vi a4, vi a5, vi a6] 50), (k1, .ro O1)] (Value.agg #[vi (-1 : Int), vi (0 : Int)]) [] n 0

theorem Zgn (A : Array Value) (o0 : Nat) (L1 : List R_iiii) (n2 n3 : Nat) (a4 a5 a6 : Int) (O1 : Obj) (F1 : ZA O1 o0 L1) (N : Nat) (h : Zda L1 n2 n3 a4 a5 a6 N = some (.r0)) (k0 k1 n : Nat) (hA : A = #[vp k0 0]) (hnd : ([k0, k1] : List Nat).Nodup) (hlt : ∀ k ∈ ([k0, k1] : List Nat), k < n) : Ze9 A o0 L1 n2 n3 a4 a5 a6 O1 k0 k1 n :=
 Z7 hA (LSpec.callL (show LSpec Try.prog 43 #[vp 0 0] [.cells [vn, vs 1 o0 n2 n3, vn, vn, vn, vi a4, vi a5, vi a6] 50, .ro O1] (Value.agg #[vi (-1 : Int), vi (0 : Int)]) [some (.cells [vn, vs 1 o0 n2 n3, vn, vn, vn, vi a4, vi a5, vi a6] 50), some (.ro O1)] from ZiQ o0 L1 n2 n3 a4 a5 a6 O1 F1 N _ h) [k0, k1] n [] rfl hnd hlt (show 2 ≤ 2 from by decide) (show ∀ j ∈ ([] : List Nat), j < 2 from by decide) (by rfl) ⟨rfl, ⟨rfl, trivial⟩⟩ (by rfl) ⟨rfl, ⟨rfl, trivial⟩⟩ ⟨.inr rfl, ⟨.inr rfl, trivial⟩⟩ rfl rfl rfl (Zb (Zj rfl rfl) (Zb (Zj rfl rfl) rfl)) rfl)

noncomputable def ZiG (a0 a1 : Int) (o2 : Nat) (L3 : List R_iiii) (n4 n5 : Nat) (a6 a7 a8 : Int) (O1 : Obj) : ZbY → Value
 | .r0 => vtt
 | .r1 => vtt
noncomputable def ZhO (a0 a1 : Int) (o2 : Nat) (L3 : List R_iiii) (n4 n5 : Nat) (a6 a7 a8 : Int) (O1 : Obj) : ZbY → List (Option AObj)
 | .r0 => [some (.cells [vs 2 0 1 1, vs 1 o2 n4 n5, vs 3 0 1 1, vs 4 0 1 1, vs 5 0 1 1, vi (if (1 : Int) > a6 then (1 : Int) else a6), vi a7, vi a8] 50), some (.ro O1), some (.cells (Za Zd ([(⟨a0, (-1 : Int)⟩ : R_ii)] : List R_ii)) 76), some (.cells (Za Zd ([(⟨(-1 : Int), (0 : Int)⟩ : R_ii)] : List R_ii)) 63), some (.cells (Za eI [(-1 : Int)]) 3), some (.cells (Za eI ([a0] : List Int)) 3)]
 | .r1 => [some (.cells [vn, vs 1 o2 n4 n5, vs 2 0 1 1, vs 3 0 1 1, vn, vi a6, vi a7, vi a8] 50), some (.ro O1), some (.cells (Za Zd ([(⟨(-1 : Int), (0 : Int)⟩ : R_ii)] : List R_ii)) 63), some (.cells (Za eI [(-1 : Int)]) 3)]

theorem Zmp (a0 a1 : Int) (o2 : Nat) (L3 : List R_iiii) (n4 n5 : Nat) (a6 a7 a8 : Int) (O1 : Obj) (F1 : ZA O1 o2 L3) (N : Nat) : Fx Try.prog Z8 Try.f35 [.cells [vn, vs 1 o2 n4 n5, vn, vn, vn, vi a6, vi a7, vi a8] 50, .ro O1] #[vp 0 0, vi a0, vi a1] (ZiG a0 a1 o2 L3 n4 n5 a6 a7 a8 O1) (ZhO a0 a1 o2 L3 n4 n5 a6 a7 a8 O1) (Zde a0 a1 L3 n4 n5 a6 a7 a8 N) := by
 unfold Zde
 refine ZZ (fun z0 c0 => ?_)
 cases z0 with
 | r0 =>
  refine Zo (fun g1 => ?_) (fun g1 => ?_)
  ·
   exact Zn (r := (.r0 : ZbY)) (fu := 4000) (orc := (Zk [(0, true)] [] [] [] [(0, (Zgm (o2) (L3) (n4) (n5) (a6) (a7) (a8) O1  0 1 2))])) (live := [0, 1, 10, 3, 5, 7]) (u := vtt) (bl := [some (.cells [vs 10 0 1 1, vs 1 o2 n4 n5, vs 3 0 1 1, vs 5 0 1 1, vs 7 0 1 1, vi (if (1 : Int) > a6 then (1 : Int) else a6), vi a7, vi a8] 50), some (.ro O1), some (.cells [vi a0, vi (-1 : Int)] 76), some (.cells [vi (-1 : Int), vi (0 : Int)] 63), some (.cells [vi (-1 : Int)] 3), some (.cells [vi a0] 3)]) (ob := [((a1 == (15 : Int)), true), (dP (Ze9 #[vp 0 0] (o2) (L3) (n4) (n5) (a6) (a7) (a8) O1  0 1 2), true), (dS [vn, vs 1 o2 n4 n5, vn, vn, vn, vi a6, vi a7, vi a8], true), (dS O1, true)]) (by kernel_rfl) (oT <| Zc (Zg (Zgn #[vp 0 0] (o2) (L3) (n4) (n5) (a6) (a7) (a8) O1 F1  N c0 0 1 2 rfl (by decide) (by decide))) <| Zc (Zg (Zb rfl (Zb rfl (Zb rfl (Zb rfl (Zb rfl (Zb rfl (Zb rfl (Zb rfl rfl))))))))) <| oR Zh) rfl (by decide) (by rfl) rr ⟨⟨rfl, ⟨[], by rfl⟩, by rfl⟩, ⟨rfl, ⟨(Zbd (E := Zd) _ (L := ([(⟨a0, (-1 : Int)⟩ : R_ii)] : List R_ii)) _ (show ([vi a0, vi (-1 : Int)] : List Value) = Za Zd ([(⟨a0, (-1 : Int)⟩ : R_ii)] : List R_ii) from rfl)), ⟨(Zbd (E := Zd) _ (L := ([(⟨(-1 : Int), (0 : Int)⟩ : R_ii)] : List R_ii)) _ (show ([vi (-1 : Int), vi (0 : Int)] : List Value) = Za Zd ([(⟨(-1 : Int), (0 : Int)⟩ : R_ii)] : List R_ii) from rfl)), ⟨(Zbd (E := eI) _ (L := [(-1 : Int)]) _ (show ([vi (-1 : Int)] : List Value) = Za eI [(-1 : Int)] from rfl)), ⟨(Zbd (E := eI) _ (L := ([a0] : List Int)) _ (show ([vi a0] : List Value) = Za eI ([a0] : List Int) from rfl)), trivial⟩⟩⟩⟩⟩⟩
  ·
   refine Zo (fun g2 => ?_) (fun g2 => ?_)
   ·
    exact ZM
   ·
    refine Zo (fun g3 => ?_) (fun g3 => ?_)
    ·
     exact ZM
    ·
     exact Zn (r := (.r1 : ZbY)) (fu := 4000) (orc := (Zk [(0, false), (1, false), (2, false)] [] [] [] [(0, (Zgm (o2) (L3) (n4) (n5) (a6) (a7) (a8) O1  0 1 2))])) (live := [0, 1, 3, 5]) (u := vtt) (bl := [some (.cells [vn, vs 1 o2 n4 n5, vs 3 0 1 1, vs 5 0 1 1, vn, vi a6, vi a7, vi a8] 50), some (.ro O1), some (.cells [vi (-1 : Int), vi (0 : Int)] 63), some (.cells [vi (-1 : Int)] 3)]) (ob := [((a1 == (17 : Int)), false), ((a1 == (16 : Int)), false), ((a1 == (15 : Int)), false), (dP (Ze9 #[vp 0 0] (o2) (L3) (n4) (n5) (a6) (a7) (a8) O1  0 1 2), true), (dS [vn, vs 1 o2 n4 n5, vn, vn, vn, vi a6, vi a7, vi a8], true), (dS O1, true)]) (by kernel_rfl) (oF <| oF <| oF <| Zc (Zg (Zgn #[vp 0 0] (o2) (L3) (n4) (n5) (a6) (a7) (a8) O1 F1  N c0 0 1 2 rfl (by decide) (by decide))) <| Zc (Zg (Zb rfl (Zb rfl (Zb rfl (Zb rfl (Zb rfl (Zb rfl (Zb rfl (Zb rfl rfl))))))))) <| oR Zh) rfl (by decide) (by rfl) rr ⟨⟨rfl, ⟨[], by rfl⟩, by rfl⟩, ⟨rfl, ⟨(Zbd (E := Zd) _ (L := ([(⟨(-1 : Int), (0 : Int)⟩ : R_ii)] : List R_ii)) _ (show ([vi (-1 : Int), vi (0 : Int)] : List Value) = Za Zd ([(⟨(-1 : Int), (0 : Int)⟩ : R_ii)] : List R_ii) from rfl)), ⟨(Zbd (E := eI) _ (L := [(-1 : Int)]) _ (show ([vi (-1 : Int)] : List Value) = Za eI [(-1 : Int)] from rfl)), trivial⟩⟩⟩⟩

theorem Zgo (a0 a1 : Int) (o2 : Nat) (L3 : List R_iiii) (n4 n5 : Nat) (a6 a7 a8 : Int) (O1 : Obj) (F1 : ZA O1 o2 L3) (N : Nat) (r : ZbY) (h : Zde a0 a1 L3 n4 n5 a6 a7 a8 N = some r) : LSpec Try.prog 35 #[vp 0 0, vi a0, vi a1] [.cells [vn, vs 1 o2 n4 n5, vn, vn, vn, vi a6, vi a7, vi a8] 50, .ro O1] (ZiG a0 a1 o2 L3 n4 n5 a6 a7 a8 O1 r) (ZhO a0 a1 o2 L3 n4 n5 a6 a7 a8 O1 r) :=
 ZaB Zax Try.func35 (by kernel_rfl) (by kernel_rfl) (fun r => by cases r <;> exact Zaf _ rfl) (Zmp a0 a1 o2 L3 n4 n5 a6 a7 a8 O1 F1 N) h

noncomputable def Znc (a0 a1 : Int) (o2 : Nat) (L3 : List R_iiii) (n4 n5 : Nat) (a6 a7 a8 : Int) (O1 : Obj) (k0 k1 n : Nat) : Zag := .call [(k0, .cells [vn, vs k1 o2 n4 n5, vn, vn, vn, vi a6, vi a7, vi a8] 50), (k1, .ro O1)] (vtt) [(k0, some (.cells [vs n 0 1 1, vs k1 o2 n4 n5, vs (n + 1) 0 1 1, vs (n + 2) 0 1 1, vs (n + 3) 0 1 1, vi (if (1 : Int) > a6 then (1 : Int) else a6), vi a7, vi a8] 50)), (n, some (.cells (Za Zd ([(⟨a0, (-1 : Int)⟩ : R_ii)] : List R_ii)) 76)), ((n + 1), some (.cells (Za Zd ([(⟨(-1 : Int), (0 : Int)⟩ : R_ii)] : List R_ii)) 63)), ((n + 2), some (.cells (Za eI [(-1 : Int)]) 3)), ((n + 3), some (.cells (Za eI ([a0] : List Int)) 3))] 4
def ZhP (A : Array Value) (a0 a1 : Int) (o2 : Nat) (L3 : List R_iiii) (n4 n5 : Nat) (a6 a7 a8 : Int) (O1 : Obj) (k0 k1 n : Nat) : Prop := Zz Try.prog 35 A [(k0, .cells [vn, vs k1 o2 n4 n5, vn, vn, vn, vi a6, vi a7, vi a8] 50), (k1, .ro O1)] (vtt) [(k0, some (.cells [vs n 0 1 1, vs k1 o2 n4 n5, vs (n + 1) 0 1 1, vs (n + 2) 0 1 1, vs (n + 3) 0 1 1, vi (if (1 : Int) > a6 then (1 : Int) else a6), vi a7, vi a8] 50)), (n, some (.cells (Za Zd ([(⟨a0, (-1 : Int)⟩ : R_ii)] : List R_ii)) 76)), ((n + 1), some (.cells (Za Zd ([(⟨(-1 : Int), (0 : Int)⟩ : R_ii)] : List R_ii)) 63)), ((n + 2), some (.cells (Za eI [(-1 : Int)]) 3)), ((n + 3), some (.cells (Za eI ([a0] : List Int)) 3))] n 4

theorem Znd (A : Array Value) (a0 a1 : Int) (o2 : Nat) (L3 : List R_iiii) (n4 n5 : Nat) (a6 a7 a8 : Int) (O1 : Obj) (F1 : ZA O1 o2 L3) (N : Nat) (h : Zde a0 a1 L3 n4 n5 a6 a7 a8 N = some (.r0)) (k0 k1 n : Nat) (hA : A = #[vp k0 0, vi a0, vi a1]) (hnd : ([k0, k1] : List Nat).Nodup) (hlt : ∀ k ∈ ([k0, k1] : List Nat), k < n) : ZhP A a0 a1 o2 L3 n4 n5 a6 a7 a8 O1 k0 k1 n :=
 Z7 hA (LSpec.callL (show LSpec Try.prog 35 #[vp 0 0, vi a0, vi a1] [.cells [vn, vs 1 o2 n4 n5, vn, vn, vn, vi a6, vi a7, vi a8] 50, .ro O1] (vtt) [some (.cells [vs 2 0 1 1, vs 1 o2 n4 n5, vs 3 0 1 1, vs 4 0 1 1, vs 5 0 1 1, vi (if (1 : Int) > a6 then (1 : Int) else a6), vi a7, vi a8] 50), some (.ro O1), some (.cells (Za Zd ([(⟨a0, (-1 : Int)⟩ : R_ii)] : List R_ii)) 76), some (.cells (Za Zd ([(⟨(-1 : Int), (0 : Int)⟩ : R_ii)] : List R_ii)) 63), some (.cells (Za eI [(-1 : Int)]) 3), some (.cells (Za eI ([a0] : List Int)) 3)] from Zgo a0 a1 o2 L3 n4 n5 a6 a7 a8 O1 F1 N _ h) [k0, k1] n [0, 2, 3, 4, 5] rfl hnd hlt (show 2 ≤ 6 from by decide) (show ∀ j ∈ ([0, 2, 3, 4, 5] : List Nat), j < 6 from by decide) (by rfl) ⟨rfl, ⟨rfl, trivial⟩⟩ (by rfl) ⟨rfl, ⟨rfl, ⟨(Zi _ _ _), ⟨(Zi _ _ _), ⟨(Zi _ _ _), ⟨(Zi _ _ _), trivial⟩⟩⟩⟩⟩⟩ ⟨.inl (by decide), ⟨.inr rfl, ⟨(by decide), ⟨(by decide), ⟨(by decide), ⟨(by decide), trivial⟩⟩⟩⟩⟩⟩ rfl rfl rfl (Zb (Zj rfl rfl) (Zb (Zj rfl rfl) rfl)) (Zb (Zj rfl (Z0 rfl)) (Zb (Zj rfl (Z0 (Zm _ _ _))) (Zb (Zj rfl (Z0 (Zm _ _ _))) (Zb (Zj rfl (Z0 (Zm _ _ _))) (Zb (Zj rfl (Z0 (Zm _ _ _))) rfl))))))

noncomputable def Zne (a0 a1 : Int) (o2 : Nat) (L3 : List R_iiii) (n4 n5 : Nat) (a6 a7 a8 : Int) (O1 : Obj) (k0 k1 n : Nat) : Zag := .call [(k0, .cells [vn, vs k1 o2 n4 n5, vn, vn, vn, vi a6, vi a7, vi a8] 50), (k1, .ro O1)] (vtt) [(k0, some (.cells [vn, vs k1 o2 n4 n5, vs n 0 1 1, vs (n + 1) 0 1 1, vn, vi a6, vi a7, vi a8] 50)), (n, some (.cells (Za Zd ([(⟨(-1 : Int), (0 : Int)⟩ : R_ii)] : List R_ii)) 63)), ((n + 1), some (.cells (Za eI [(-1 : Int)]) 3))] 2
def ZhQ (A : Array Value) (a0 a1 : Int) (o2 : Nat) (L3 : List R_iiii) (n4 n5 : Nat) (a6 a7 a8 : Int) (O1 : Obj) (k0 k1 n : Nat) : Prop := Zz Try.prog 35 A [(k0, .cells [vn, vs k1 o2 n4 n5, vn, vn, vn, vi a6, vi a7, vi a8] 50), (k1, .ro O1)] (vtt) [(k0, some (.cells [vn, vs k1 o2 n4 n5, vs n 0 1 1, vs (n + 1) 0 1 1, vn, vi a6, vi a7, vi a8] 50)), (n, some (.cells (Za Zd ([(⟨(-1 : Int), (0 : Int)⟩ : R_ii)] : List R_ii)) 63)), ((n + 1), some (.cells (Za eI [(-1 : Int)]) 3))] n 2

theorem Znf (A : Array Value) (a0 a1 : Int) (o2 : Nat) (L3 : List R_iiii) (n4 n5 : Nat) (a6 a7 a8 : Int) (O1 : Obj) (F1 : ZA O1 o2 L3) (N : Nat) (h : Zde a0 a1 L3 n4 n5 a6 a7 a8 N = some (.r1)) (k0 k1 n : Nat) (hA : A = #[vp k0 0, vi a0, vi a1]) (hnd : ([k0, k1] : List Nat).Nodup) (hlt : ∀ k ∈ ([k0, k1] : List Nat), k < n) : ZhQ A a0 a1 o2 L3 n4 n5 a6 a7 a8 O1 k0 k1 n :=
 Z7 hA (LSpec.callL (show LSpec Try.prog 35 #[vp 0 0, vi a0, vi a1] [.cells [vn, vs 1 o2 n4 n5, vn, vn, vn, vi a6, vi a7, vi a8] 50, .ro O1] (vtt) [some (.cells [vn, vs 1 o2 n4 n5, vs 2 0 1 1, vs 3 0 1 1, vn, vi a6, vi a7, vi a8] 50), some (.ro O1), some (.cells (Za Zd ([(⟨(-1 : Int), (0 : Int)⟩ : R_ii)] : List R_ii)) 63), some (.cells (Za eI [(-1 : Int)]) 3)] from Zgo a0 a1 o2 L3 n4 n5 a6 a7 a8 O1 F1 N _ h) [k0, k1] n [0, 2, 3] rfl hnd hlt (show 2 ≤ 4 from by decide) (show ∀ j ∈ ([0, 2, 3] : List Nat), j < 4 from by decide) (by rfl) ⟨rfl, ⟨rfl, trivial⟩⟩ (by rfl) ⟨rfl, ⟨rfl, ⟨(Zi _ _ _), ⟨(Zi _ _ _), trivial⟩⟩⟩⟩ ⟨.inl (by decide), ⟨.inr rfl, ⟨(by decide), ⟨(by decide), trivial⟩⟩⟩⟩ rfl rfl rfl (Zb (Zj rfl rfl) (Zb (Zj rfl rfl) rfl)) (Zb (Zj rfl (Z0 rfl)) (Zb (Zj rfl (Z0 (Zm _ _ _))) (Zb (Zj rfl (Z0 (Zm _ _ _))) rfl))))

noncomputable def ZkT (a0 a1 a2 a3 : Int) : Zcb → Value
 | .r0 w0 w1 => Value.tuple #[vi w0, Value.bool w1]
noncomputable def ZjW (a0 a1 a2 a3 : Int) : Zcb → List (Option AObj)
 | .r0 w0 w1 => []

theorem Zom (a0 a1 a2 a3 : Int) (N : Nat) : Fx Try.prog Z8 Try.f46 [] #[Value.agg #[vi a0, vi a1, vi a2, vi a3]] (ZkT a0 a1 a2 a3) (ZjW a0 a1 a2 a3) (ZbC a0 a1 a2 a3 N) := by
 unfold ZbC
 refine Zo (fun g0 => ?_) (fun g0 => ?_)
 ·
  exact Zn (r := (.r0 (a1) (true) : Zcb)) (fu := 4000) (orc := (Zk [(0, true)] [] [] [] [])) (live := []) (u := Value.tuple #[vi a1, Value.bool true]) (bl := []) (ob := [((a0 == (8 : Int)), true)]) (by kernel_rfl) (oT Zh) rfl (by decide) (by rfl) rr trivial
 ·
  refine Zo (fun g1 => ?_) (fun g1 => ?_)
  ·
   exact Zn (r := (.r0 (a2) (true) : Zcb)) (fu := 4000) (orc := (Zk [(0, false), (1, true)] [] [] [] [])) (live := []) (u := Value.tuple #[vi a2, Value.bool true]) (bl := []) (ob := [((a0 == (9 : Int)), true), ((a0 == (8 : Int)), false)]) (by kernel_rfl) (oT <| oF Zh) rfl (by decide) (by rfl) rr trivial
  ·
   exact Zn (r := (.r0 ((0 : Int)) (false) : Zcb)) (fu := 4000) (orc := (Zk [(0, false), (1, false)] [] [] [] [])) (live := []) (u := Value.tuple #[vi (0 : Int), Value.bool false]) (bl := []) (ob := [((a0 == (9 : Int)), false), ((a0 == (8 : Int)), false)]) (by kernel_rfl) (oF <| oF Zh) rfl (by decide) (by rfl) rr trivial

theorem Zng (a0 a1 a2 a3 : Int) (N : Nat) (r : Zcb) (h : ZbC a0 a1 a2 a3 N = some r) : LSpec Try.prog 46 #[Value.agg #[vi a0, vi a1, vi a2, vi a3]] [] (ZkT a0 a1 a2 a3 r) (ZjW a0 a1 a2 a3 r) :=
 ZaB Zax Try.func46 (by kernel_rfl) (by kernel_rfl) (fun r => by cases r <;> exact Zaf _ rfl) (Zom a0 a1 a2 a3 N) h

noncomputable def Zac (a0 a1 a2 a3 w0 : Int) (w1 : Bool) (n : Nat) : Zag := .call [] (Value.tuple #[vi w0, Value.bool w1]) [] 0
def Zaa (A : Array Value) (a0 a1 a2 a3 w0 : Int) (w1 : Bool) (n : Nat) : Prop := Zz Try.prog 46 A [] (Value.tuple #[vi w0, Value.bool w1]) [] n 0

theorem Zad (A : Array Value) (a0 a1 a2 a3 w0 : Int) (w1 : Bool) (N : Nat) (h : ZbC a0 a1 a2 a3 N = some (.r0 w0 w1)) (n : Nat) (hA : A = #[Value.agg #[vi a0, vi a1, vi a2, vi a3]]) (hnd : ([] : List Nat).Nodup) (hlt : ∀ k ∈ ([] : List Nat), k < n) : Zaa A a0 a1 a2 a3 w0 w1  n :=
 Z7 hA (LSpec.callL (show LSpec Try.prog 46 #[Value.agg #[vi a0, vi a1, vi a2, vi a3]] [] (Value.tuple #[vi w0, Value.bool w1]) [] from Zng a0 a1 a2 a3 N _ h) [] n [] rfl hnd hlt (show 0 ≤ 0 from by decide) (show ∀ j ∈ ([] : List Nat), j < 0 from by decide) (by rfl) trivial (by rfl) trivial trivial rfl rfl rfl rfl rfl)

noncomputable def ZiH (o0 : Nat) (L1 : List R_iiii) (n2 n3 : Nat) (L4 : List R_ii) (a5 a6 a7 : Int) (O1 : Obj) : ZaG → Value
 | .r0 w6 w7 => vtt
noncomputable def ZhR (o0 : Nat) (L1 : List R_iiii) (n2 n3 : Nat) (L4 : List R_ii) (a5 a6 a7 : Int) (O1 : Obj) : ZaG → List (Option AObj)
 | .r0 w6 w7 => [some (.cells [vn, vs 1 o0 n2 n3, vs 2 0 L4.length L4.length, vn, vn, vi a5, vi w6, vi w7] 50), some (.ro O1), some (.cells (Za Zd L4) 63)]

def Znh : Zat → Nat
 | .h1m0 v6 => 1
noncomputable def ZnI (o0 : Nat) (L1 : List R_iiii) (n2 n3 : Nat) (L4 : List R_ii) (a5 a6 a7 : Int) (O1 : Obj) : Zat → List (Nat × Value)
 | .h1m0 v6 => [(0, vp 0 0), (9, vs 1 o0 n2 n3), (10, vi (n2 : Int)), (11, vi (v6 : Int))]
noncomputable def ZnJ (o0 : Nat) (L1 : List R_iiii) (n2 n3 : Nat) (L4 : List R_ii) (a5 a6 a7 : Int) (O1 : Obj) : Zat → List (Option AObj)
 | .h1m0 v6 => [some (.cells [vn, vs 1 o0 n2 n3, vs 2 0 L4.length L4.length, vn, vn, vi a5, vi a6, vi a7] 50), some (.ro O1), some (.cells (Za Zd L4) 63)]

noncomputable def ZcV : Nat → Code × List Zb3
 | 1 => ZcZ [1, 3] (Ze6 Try.f38) []
 | _ => (.skip, [])
def ZhS : Nat → Bool
 | 1 => true
 | _ => true
noncomputable def ZiI (i : Nat) : List Zb3 := match ZhS i with | true => .rnd i :: (ZcV i).2 | false => (ZcV i).2

noncomputable def Zbi (o0 : Nat) (L1 : List R_iiii) (n2 n3 : Nat) (L4 : List R_ii) (a5 a6 a7 : Int) (O1 : Obj) (N : Nat) : Mach := ⟨Try.f38, [.cells [vn, vs 1 o0 n2 n3, vs 2 0 L4.length L4.length, vn, vn, vi a5, vi a6, vi a7] 50, .ro O1, .cells (Za Zd L4) 63], Zat, ZaG, ZdC L1 n2 n3 L4 a5 a6 a7 N, Znh, ZcV, ZhS, ZnI o0 L1 n2 n3 L4 a5 a6 a7 O1, ZnJ o0 L1 n2 n3 L4 a5 a6 a7 O1, ZiH o0 L1 n2 n3 L4 a5 a6 a7 O1, ZhR o0 L1 n2 n3 L4 a5 a6 a7 O1⟩

theorem ZjX (o0 : Nat) (L1 : List R_iiii) (n2 n3 : Nat) (L4 : List R_ii) (a5 a6 a7 : Int) (O1 : Obj) (F1 : ZA O1 o0 L1) (v6 N : Nat) : (Zbi o0 L1 n2 n3 L4 a5 a6 a7 O1 N).Ok Try.prog Z8 (.h1m0 v6 : Zat) (ZdC L1 n2 n3 L4 a5 a6 a7 N (.h1m0 v6 : Zat)) := by
 show (Zbi o0 L1 n2 n3 L4 a5 a6 a7 O1 N).Ok Try.prog Z8 (.h1m0 v6 : Zat) (Ze8 L1 n2 n3 L4 a5 a6 a7 N v6)
 unfold Ze8
 refine Mach.ok_ite (fun g0 => ?_) (fun g0 => ?_)
 ·
  refine Mach.ok_ite (fun g1 => ?_) (fun g1 => ?_)
  ·
   refine Mach.ok_bind (fun z2 c2 => ?_)
   cases z2 with
   | r0 y2_0 y2_1 =>
    refine Mach.ok_ite (fun g3 => ?_) (fun g3 => ?_)
    ·
     subst g3
     refine Mach.ok_ite (fun g4 => ?_) (fun g4 => ?_)
     ·
      exact Mach.ok_fin (M := Zbi o0 L1 n2 n3 L4 a5 a6 a7 O1 N) (cd := 1000000) (cm := 0) (r := (.r0 ((v6 : Int)) ((120 : Int)) : ZaG)) (fu := 4000) (orc := (Zk [(0, true), (1, true)] [] [(0, v6)] [(0, [.i (L1.getD v6 R_iiii.z).a0, .i (L1.getD v6 R_iiii.z).a1, .i (L1.getD v6 R_iiii.z).a2, .i (L1.getD v6 R_iiii.z).a3])] [(1, (Zac ((L1.getD v6 R_iiii.z).a0) ((L1.getD v6 R_iiii.z).a1) ((L1.getD v6 R_iiii.z).a2) ((L1.getD v6 R_iiii.z).a3)  y2_0 true  4))])) (live := [0, 1, 2]) (u := vtt) (bl := [some (.cells [vn, vs 1 o0 n2 n3, vs 2 0 L4.length L4.length, vn, vn, vi a5, vi (v6 : Int), vi (120 : Int)] 50), some (.ro O1), some (.cells (Za Zd L4) 63)]) (ob := [((decide (y2_0 > (n2 : Int))), true), (dP (Zaa #[Value.agg #[vi (L1.getD v6 R_iiii.z).a0, vi (L1.getD v6 R_iiii.z).a1, vi (L1.getD v6 R_iiii.z).a2, vi (L1.getD v6 R_iiii.z).a3]] ((L1.getD v6 R_iiii.z).a0) ((L1.getD v6 R_iiii.z).a1) ((L1.getD v6 R_iiii.z).a2) ((L1.getD v6 R_iiii.z).a3)  y2_0 true  4), true), (ZB (ZaP O1 (o0 + (v6 * 4)) 4) [.i (L1.getD v6 R_iiii.z).a0, .i (L1.getD v6 R_iiii.z).a1, .i (L1.getD v6 R_iiii.z).a2, .i (L1.getD v6 R_iiii.z).a3], true), (Nat.blt v6 n2, true), ((v6 : Int) == Int.ofNat v6, true), ((decide ((v6 : Int) < (n2 : Int))), true)]) (fun gv => by kernel_rfl) (oY <| Zc (Zg (Zad #[Value.agg #[vi (L1.getD v6 R_iiii.z).a0, vi (L1.getD v6 R_iiii.z).a1, vi (L1.getD v6 R_iiii.z).a2, vi (L1.getD v6 R_iiii.z).a3]] ((L1.getD v6 R_iiii.z).a0) ((L1.getD v6 R_iiii.z).a1) ((L1.getD v6 R_iiii.z).a2) ((L1.getD v6 R_iiii.z).a3)  y2_0 true N c2  4 rfl (by decide) (by decide))) <| Zc ((show (o0 + v6 * 4 + 0) = (o0 + (v6 * 4)) from by omega) ▸ F1 v6 (by omega) 0 4 (show 0 + 4 ≤ 4 from by decide)) <| oB <| oI <| oY Zh) rfl (by decide) (by rfl) rr ⟨⟨rfl, ⟨[], by rfl⟩, by rfl⟩, ⟨rfl, ⟨(Ze (E := Zd) (α := R_ii) _ L4 _), trivial⟩⟩⟩
     ·
      refine Mach.ok_ite (fun g5 => ?_) (fun g5 => ?_)
      ·
       refine Mach.ok_ite (fun g6 => ?_) (fun g6 => ?_)
       ·
        refine Mach.ok_ite (fun g7 => ?_) (fun g7 => ?_)
        ·
         refine Mach.ok_ite (fun g8 => ?_) (fun g8 => ?_)
         ·
          exact Mach.ok_fin (M := Zbi o0 L1 n2 n3 L4 a5 a6 a7 O1 N) (cd := 1000000) (cm := 0) (r := (.r0 ((v6 : Int)) ((120 : Int)) : ZaG)) (fu := 4000) (orc := (Zk [(0, true), (1, false), (2, true)] [] [(0, v6), (1, (y2_0).toNat), (2, v6)] [(0, [.i (L1.getD v6 R_iiii.z).a0, .i (L1.getD v6 R_iiii.z).a1, .i (L1.getD v6 R_iiii.z).a2, .i (L1.getD v6 R_iiii.z).a3]), (4, [.i (L4.getD (y2_0).toNat R_ii.z).a0, .i (L4.getD (y2_0).toNat R_ii.z).a1]), (6, [.i (L4.getD v6 R_ii.z).a0, .i (L4.getD v6 R_ii.z).a1])] [(1, (Zac ((L1.getD v6 R_iiii.z).a0) ((L1.getD v6 R_iiii.z).a1) ((L1.getD v6 R_iiii.z).a2) ((L1.getD v6 R_iiii.z).a3)  y2_0 true  4))])) (live := [0, 1, 2]) (u := vtt) (bl := [some (.cells [vn, vs 1 o0 n2 n3, vs 2 0 L4.length L4.length, vn, vn, vi a5, vi (v6 : Int), vi (120 : Int)] 50), some (.ro O1), some (.cells (Za Zd L4) 63)]) (ob := [((!(((L4.getD (y2_0).toNat R_ii.z).a0 == (L4.getD v6 R_ii.z).a0) && (((L4.getD (y2_0).toNat R_ii.z).a1 == (L4.getD v6 R_ii.z).a1) && true))), true), (ZB (Zy 2 (List.drop (0 + (v6 * 2)) (Za Zd L4))) [.i (L4.getD v6 R_ii.z).a0, .i (L4.getD v6 R_ii.z).a1], true), (Nat.blt v6 L4.length, true), ((v6 : Int) == Int.ofNat v6, true), (ZB (Zy 2 (List.drop (0 + ((y2_0).toNat * 2)) (Za Zd L4))) [.i (L4.getD (y2_0).toNat R_ii.z).a0, .i (L4.getD (y2_0).toNat R_ii.z).a1], true), (Nat.blt (y2_0).toNat L4.length, true), (y2_0 == Int.ofNat (y2_0).toNat, true), ((decide (y2_0 > (n2 : Int))), false), (dP (Zaa #[Value.agg #[vi (L1.getD v6 R_iiii.z).a0, vi (L1.getD v6 R_iiii.z).a1, vi (L1.getD v6 R_iiii.z).a2, vi (L1.getD v6 R_iiii.z).a3]] ((L1.getD v6 R_iiii.z).a0) ((L1.getD v6 R_iiii.z).a1) ((L1.getD v6 R_iiii.z).a2) ((L1.getD v6 R_iiii.z).a3)  y2_0 true  4), true), (ZB (ZaP O1 (o0 + (v6 * 4)) 4) [.i (L1.getD v6 R_iiii.z).a0, .i (L1.getD v6 R_iiii.z).a1, .i (L1.getD v6 R_iiii.z).a2, .i (L1.getD v6 R_iiii.z).a3], true), (Nat.blt v6 n2, true), ((v6 : Int) == Int.ofNat v6, true), ((decide ((v6 : Int) < (n2 : Int))), true)]) (fun gv => by kernel_rfl) (Zc (by rw [Bool.not_eq_true']; exact Bool.eq_false_iff.2 (by simp only [ne_eq, Bool.and_true, Bool.and_eq_true, beq_iff_eq]; first | omega | (intro hh; simp_all; done))) <| Zc (Z3 (E := Zd) (L := L4) (i := v6) (q := 0) (by omega) (show (0 + (v6 * 2)) = v6 * 2 + 0 from by omega) (show 0 + 2 ≤ 2 from by decide) rfl rfl) <| oB <| oI <| Zc (Z3 (E := Zd) (L := L4) (i := (y2_0).toNat) (q := 0) (by omega) (show (0 + ((y2_0).toNat * 2)) = (y2_0).toNat * 2 + 0 from by omega) (show 0 + 2 ≤ 2 from by decide) rfl rfl) <| oB <| oI <| oN <| Zc (Zg (Zad #[Value.agg #[vi (L1.getD v6 R_iiii.z).a0, vi (L1.getD v6 R_iiii.z).a1, vi (L1.getD v6 R_iiii.z).a2, vi (L1.getD v6 R_iiii.z).a3]] ((L1.getD v6 R_iiii.z).a0) ((L1.getD v6 R_iiii.z).a1) ((L1.getD v6 R_iiii.z).a2) ((L1.getD v6 R_iiii.z).a3)  y2_0 true N c2  4 rfl (by decide) (by decide))) <| Zc ((show (o0 + v6 * 4 + 0) = (o0 + (v6 * 4)) from by omega) ▸ F1 v6 (by omega) 0 4 (show 0 + 4 ≤ 4 from by decide)) <| oB <| oI <| oY Zh) rfl (by decide) (by rfl) rr ⟨⟨rfl, ⟨[], by rfl⟩, by rfl⟩, ⟨rfl, ⟨(Ze (E := Zd) (α := R_ii) _ L4 _), trivial⟩⟩⟩
         ·
          refine Mach.ok_ite (fun g9 => ?_) (fun g9 => ?_)
          ·
           exact Mach.ok_next (M := Zbi o0 L1 n2 n3 L4 a5 a6 a7 O1 N) (cd := 1000000) (cm := 0) (y := (.h1m0 ((v6 + 1)) : Zat)) (fu := 4000) (orc := (Zk [(0, true), (1, false), (2, false)] [(0, (((v6 + 1) : Nat) : Int))] [(0, v6), (1, (y2_0).toNat), (2, v6)] [(0, [.i (L1.getD v6 R_iiii.z).a0, .i (L1.getD v6 R_iiii.z).a1, .i (L1.getD v6 R_iiii.z).a2, .i (L1.getD v6 R_iiii.z).a3]), (4, [.i (L4.getD (y2_0).toNat R_ii.z).a0, .i (L4.getD (y2_0).toNat R_ii.z).a1]), (6, [.i (L4.getD v6 R_ii.z).a0, .i (L4.getD v6 R_ii.z).a1])] [(1, (Zac ((L1.getD v6 R_iiii.z).a0) ((L1.getD v6 R_iiii.z).a1) ((L1.getD v6 R_iiii.z).a2) ((L1.getD v6 R_iiii.z).a3)  y2_0 true  4))])) (live := [0, 1, 2]) (tv := fun _ => [some (vp 0 0), some (vs 1 o0 n2 n3), some (vi (n2 : Int)), some (vi (((v6 + 1) : Nat) : Int))]) (bl := [some (.cells [vn, vs 1 o0 n2 n3, vs 2 0 L4.length L4.length, vn, vn, vi a5, vi a6, vi a7] 50), some (.ro O1), some (.cells (Za Zd L4) 63)]) (ob := [((IntKind.i64.wrap ((v6 : Int) + (1 : Int))) == (((v6 + 1) : Nat) : Int), true), ((!(((L4.getD (y2_0).toNat R_ii.z).a0 == (L4.getD v6 R_ii.z).a0) && (((L4.getD (y2_0).toNat R_ii.z).a1 == (L4.getD v6 R_ii.z).a1) && true))), false), (ZB (Zy 2 (List.drop (0 + (v6 * 2)) (Za Zd L4))) [.i (L4.getD v6 R_ii.z).a0, .i (L4.getD v6 R_ii.z).a1], true), (Nat.blt v6 L4.length, true), ((v6 : Int) == Int.ofNat v6, true), (ZB (Zy 2 (List.drop (0 + ((y2_0).toNat * 2)) (Za Zd L4))) [.i (L4.getD (y2_0).toNat R_ii.z).a0, .i (L4.getD (y2_0).toNat R_ii.z).a1], true), (Nat.blt (y2_0).toNat L4.length, true), (y2_0 == Int.ofNat (y2_0).toNat, true), ((decide (y2_0 > (n2 : Int))), false), (dP (Zaa #[Value.agg #[vi (L1.getD v6 R_iiii.z).a0, vi (L1.getD v6 R_iiii.z).a1, vi (L1.getD v6 R_iiii.z).a2, vi (L1.getD v6 R_iiii.z).a3]] ((L1.getD v6 R_iiii.z).a0) ((L1.getD v6 R_iiii.z).a1) ((L1.getD v6 R_iiii.z).a2) ((L1.getD v6 R_iiii.z).a3)  y2_0 true  4), true), (ZB (ZaP O1 (o0 + (v6 * 4)) 4) [.i (L1.getD v6 R_iiii.z).a0, .i (L1.getD v6 R_iiii.z).a1, .i (L1.getD v6 R_iiii.z).a2, .i (L1.getD v6 R_iiii.z).a3], true), (Nat.blt v6 n2, true), ((v6 : Int) == Int.ofNat v6, true), ((decide ((v6 : Int) < (n2 : Int))), true)]) rfl (show 1 ∈ ZQ (ZiI 1) from by decide +kernel) (fun gv => by kernel_rfl) (Zc (beq_iff_eq.2 ((wrap_i64 ltA).trans (by first | rfl | omega))) <| Zc (by rw [Bool.not_eq_false']; first | (simp only [beq_self_eq_true, Bool.and_self]; done) | (simp only [Bool.and_true, Bool.and_eq_true, beq_iff_eq] <;> first | omega | (simp_all; done))) <| Zc (Z3 (E := Zd) (L := L4) (i := v6) (q := 0) (by omega) (show (0 + (v6 * 2)) = v6 * 2 + 0 from by omega) (show 0 + 2 ≤ 2 from by decide) rfl rfl) <| oB <| oI <| Zc (Z3 (E := Zd) (L := L4) (i := (y2_0).toNat) (q := 0) (by omega) (show (0 + ((y2_0).toNat * 2)) = (y2_0).toNat * 2 + 0 from by omega) (show 0 + 2 ≤ 2 from by decide) rfl rfl) <| oB <| oI <| oN <| Zc (Zg (Zad #[Value.agg #[vi (L1.getD v6 R_iiii.z).a0, vi (L1.getD v6 R_iiii.z).a1, vi (L1.getD v6 R_iiii.z).a2, vi (L1.getD v6 R_iiii.z).a3]] ((L1.getD v6 R_iiii.z).a0) ((L1.getD v6 R_iiii.z).a1) ((L1.getD v6 R_iiii.z).a2) ((L1.getD v6 R_iiii.z).a3)  y2_0 true N c2  4 rfl (by decide) (by decide))) <| Zc ((show (o0 + v6 * 4 + 0) = (o0 + (v6 * 4)) from by omega) ▸ F1 v6 (by omega) 0 4 (show 0 + 4 ≤ 4 from by decide)) <| oB <| oI <| oY Zh) rfl (by decide) (by rfl) (fun _ => ⟨rr, ⟨rr, ⟨rr, ⟨rr, trivial⟩⟩⟩⟩) ⟨⟨rfl, ⟨[], by rfl⟩, by rfl⟩, ⟨rfl, ⟨(Ze (E := Zd) (α := R_ii) _ L4 _), trivial⟩⟩⟩
          ·
           exact Mach.ok_none
        ·
         exact Mach.ok_none
       ·
        exact Mach.ok_none
      ·
       exact Mach.ok_none
    ·
     obtain rfl : y2_1 = false := by simpa using g3
     refine Mach.ok_ite (fun g4 => ?_) (fun g4 => ?_)
     ·
      exact Mach.ok_next (M := Zbi o0 L1 n2 n3 L4 a5 a6 a7 O1 N) (cd := 1000000) (cm := 0) (y := (.h1m0 ((v6 + 1)) : Zat)) (fu := 4000) (orc := (Zk [(0, true)] [(0, (((v6 + 1) : Nat) : Int))] [(0, v6)] [(0, [.i (L1.getD v6 R_iiii.z).a0, .i (L1.getD v6 R_iiii.z).a1, .i (L1.getD v6 R_iiii.z).a2, .i (L1.getD v6 R_iiii.z).a3])] [(1, (Zac ((L1.getD v6 R_iiii.z).a0) ((L1.getD v6 R_iiii.z).a1) ((L1.getD v6 R_iiii.z).a2) ((L1.getD v6 R_iiii.z).a3)  y2_0 false  4))])) (live := [0, 1, 2]) (tv := fun _ => [some (vp 0 0), some (vs 1 o0 n2 n3), some (vi (n2 : Int)), some (vi (((v6 + 1) : Nat) : Int))]) (bl := [some (.cells [vn, vs 1 o0 n2 n3, vs 2 0 L4.length L4.length, vn, vn, vi a5, vi a6, vi a7] 50), some (.ro O1), some (.cells (Za Zd L4) 63)]) (ob := [((IntKind.i64.wrap ((v6 : Int) + (1 : Int))) == (((v6 + 1) : Nat) : Int), true), (dP (Zaa #[Value.agg #[vi (L1.getD v6 R_iiii.z).a0, vi (L1.getD v6 R_iiii.z).a1, vi (L1.getD v6 R_iiii.z).a2, vi (L1.getD v6 R_iiii.z).a3]] ((L1.getD v6 R_iiii.z).a0) ((L1.getD v6 R_iiii.z).a1) ((L1.getD v6 R_iiii.z).a2) ((L1.getD v6 R_iiii.z).a3)  y2_0 false  4), true), (ZB (ZaP O1 (o0 + (v6 * 4)) 4) [.i (L1.getD v6 R_iiii.z).a0, .i (L1.getD v6 R_iiii.z).a1, .i (L1.getD v6 R_iiii.z).a2, .i (L1.getD v6 R_iiii.z).a3], true), (Nat.blt v6 n2, true), ((v6 : Int) == Int.ofNat v6, true), ((decide ((v6 : Int) < (n2 : Int))), true)]) rfl (show 1 ∈ ZQ (ZiI 1) from by decide +kernel) (fun gv => by kernel_rfl) (Zc (beq_iff_eq.2 ((wrap_i64 ltA).trans (by first | rfl | omega))) <| Zc (Zg (Zad #[Value.agg #[vi (L1.getD v6 R_iiii.z).a0, vi (L1.getD v6 R_iiii.z).a1, vi (L1.getD v6 R_iiii.z).a2, vi (L1.getD v6 R_iiii.z).a3]] ((L1.getD v6 R_iiii.z).a0) ((L1.getD v6 R_iiii.z).a1) ((L1.getD v6 R_iiii.z).a2) ((L1.getD v6 R_iiii.z).a3)  y2_0 false N c2  4 rfl (by decide) (by decide))) <| Zc ((show (o0 + v6 * 4 + 0) = (o0 + (v6 * 4)) from by omega) ▸ F1 v6 (by omega) 0 4 (show 0 + 4 ≤ 4 from by decide)) <| oB <| oI <| oY Zh) rfl (by decide) (by rfl) (fun _ => ⟨rr, ⟨rr, ⟨rr, ⟨rr, trivial⟩⟩⟩⟩) ⟨⟨rfl, ⟨[], by rfl⟩, by rfl⟩, ⟨rfl, ⟨(Ze (E := Zd) (α := R_ii) _ L4 _), trivial⟩⟩⟩
     ·
      exact Mach.ok_none
  ·
   exact Mach.ok_none
 ·
  exact Mach.ok_fin (M := Zbi o0 L1 n2 n3 L4 a5 a6 a7 O1 N) (cd := 1000000) (cm := 0) (r := (.r0 (a6) (a7) : ZaG)) (fu := 4000) (orc := (Zk [(0, false)] [] [] [] [])) (live := [0, 1, 2]) (u := vtt) (bl := [some (.cells [vn, vs 1 o0 n2 n3, vs 2 0 L4.length L4.length, vn, vn, vi a5, vi a6, vi a7] 50), some (.ro O1), some (.cells (Za Zd L4) 63)]) (ob := [((decide ((v6 : Int) < (n2 : Int))), false)]) (fun gv => by kernel_rfl) (oN Zh) rfl (by decide) (by rfl) rr ⟨⟨rfl, ⟨[], by rfl⟩, by rfl⟩, ⟨rfl, ⟨(Ze (E := Zd) (α := R_ii) _ L4 _), trivial⟩⟩⟩

theorem Zmq (o0 : Nat) (L1 : List R_iiii) (n2 n3 : Nat) (L4 : List R_ii) (a5 a6 a7 : Int) (O1 : Obj) (F1 : ZA O1 o0 L1) (N : Nat) : (Zbi o0 L1 n2 n3 L4 a5 a6 a7 O1 N).Enter Try.prog Z8 #[vp 0 0] (Zfp L1 n2 n3 L4 a5 a6 a7 N) := by
 unfold Zfp
 exact Mach.en_head (bK := ZcV 1) (M := Zbi o0 L1 n2 n3 L4 a5 a6 a7 O1 N) (cd := 1000000) (cm := 0) (y := (.h1m0 (0) : Zat)) (fu := 4000) (orc := (Zk [] [] [] [] [])) (live := [0, 1, 2]) (tv := [some (vp 0 0), some (vs 1 o0 n2 n3), some (vi (n2 : Int)), some (vi (0 : Int))]) (bl := [some (.cells [vn, vs 1 o0 n2 n3, vs 2 0 L4.length L4.length, vn, vn, vi a5, vi a6, vi a7] 50), some (.ro O1), some (.cells (Za Zd L4) 63)]) (ob := []) rfl rfl (show ZQ (ZcV 1).2 = [] from rfl) (by kernel_rfl) Zh rfl (by decide) (by rfl) ⟨rr, ⟨rr, ⟨rr, ⟨⟨Eq.trans (show (vi ((0 : Nat) : Int) : Value) = vi (0 : Int) from (congrArg (Value.int .i64) (by first | rfl | omega))) (by rfl), by rfl⟩, trivial⟩⟩⟩⟩ ⟨⟨rfl, ⟨[], by rfl⟩, by rfl⟩, ⟨rfl, ⟨(Ze (E := Zd) (α := R_ii) _ L4 _), trivial⟩⟩⟩

theorem Zk1 (o0 : Nat) (L1 : List R_iiii) (n2 n3 : Nat) (L4 : List R_ii) (a5 a6 a7 : Int) (O1 : Obj) (F1 : ZA O1 o0 L1) (N : Nat) (r : ZaG) (h : Zgk L1 n2 n3 L4 a5 a6 a7 N = some r) : LSpec Try.prog 38 #[vp 0 0] [.cells [vn, vs 1 o0 n2 n3, vs 2 0 L4.length L4.length, vn, vn, vi a5, vi a6, vi a7] 50, .ro O1, .cells (Za Zd L4) 63] (ZiH o0 L1 n2 n3 L4 a5 a6 a7 O1 r) (ZhR o0 L1 n2 n3 L4 a5 a6 a7 O1 r) :=
 Mach.spec Zax (Zbi o0 L1 n2 n3 L4 a5 a6 a7 O1 N) Try.func38 (by kernel_rfl) (by kernel_rfl) (fun x => by cases x <;> exact Zaf _ rfl) (fun r => by cases r <;> exact Zaf _ rfl) (fun x => by
  cases x with
  | h1m0 _ => exact fun _ => (show ¬ (1 ∈ ZQ (ZcV 1).2) from by decide +kernel)
  ) (fun x => (show (Zbi o0 L1 n2 n3 L4 a5 a6 a7 O1 N).Ok Try.prog Z8 x (ZdC L1 n2 n3 L4 a5 a6 a7 N x) from by
  cases x with
  | h1m0 v6 => exact ZjX o0 L1 n2 n3 L4 a5 a6 a7 O1 F1 v6 N
  )) (Zmq o0 L1 n2 n3 L4 a5 a6 a7 O1 F1 N) (n := N) h

noncomputable def Zni (o0 : Nat) (L1 : List R_iiii) (n2 n3 : Nat) (L4 : List R_ii) (a5 a6 a7 : Int) (O1 : Obj) (w6 w7 : Int) (k0 k1 k2 n : Nat) : Zag := .call [(k0, .cells [vn, vs k1 o0 n2 n3, vs k2 0 L4.length L4.length, vn, vn, vi a5, vi a6, vi a7] 50), (k1, .ro O1), (k2, .cells (Za Zd L4) 63)] (vtt) [(k0, some (.cells [vn, vs k1 o0 n2 n3, vs k2 0 L4.length L4.length, vn, vn, vi a5, vi w6, vi w7] 50))] 0
def ZhT (A : Array Value) (o0 : Nat) (L1 : List R_iiii) (n2 n3 : Nat) (L4 : List R_ii) (a5 a6 a7 : Int) (O1 : Obj) (w6 w7 : Int) (k0 k1 k2 n : Nat) : Prop := Zz Try.prog 38 A [(k0, .cells [vn, vs k1 o0 n2 n3, vs k2 0 L4.length L4.length, vn, vn, vi a5, vi a6, vi a7] 50), (k1, .ro O1), (k2, .cells (Za Zd L4) 63)] (vtt) [(k0, some (.cells [vn, vs k1 o0 n2 n3, vs k2 0 L4.length L4.length, vn, vn, vi a5, vi w6, vi w7] 50))] n 0

theorem Znj (A : Array Value) (o0 : Nat) (L1 : List R_iiii) (n2 n3 : Nat) (L4 : List R_ii) (a5 a6 a7 : Int) (O1 : Obj) (F1 : ZA O1 o0 L1) (w6 w7 : Int) (N : Nat) (h : Zgk L1 n2 n3 L4 a5 a6 a7 N = some (.r0 w6 w7)) (k0 k1 k2 n : Nat) (hA : A = #[vp k0 0]) (hnd : ([k0, k1, k2] : List Nat).Nodup) (hlt : ∀ k ∈ ([k0, k1, k2] : List Nat), k < n) : ZhT A o0 L1 n2 n3 L4 a5 a6 a7 O1 w6 w7 k0 k1 k2 n :=
 Z7 hA (LSpec.callL (show LSpec Try.prog 38 #[vp 0 0] [.cells [vn, vs 1 o0 n2 n3, vs 2 0 L4.length L4.length, vn, vn, vi a5, vi a6, vi a7] 50, .ro O1, .cells (Za Zd L4) 63] (vtt) [some (.cells [vn, vs 1 o0 n2 n3, vs 2 0 L4.length L4.length, vn, vn, vi a5, vi w6, vi w7] 50), some (.ro O1), some (.cells (Za Zd L4) 63)] from Zk1 o0 L1 n2 n3 L4 a5 a6 a7 O1 F1 N _ h) [k0, k1, k2] n [0] rfl hnd hlt (show 3 ≤ 3 from by decide) (show ∀ j ∈ ([0] : List Nat), j < 3 from by decide) (by rfl) ⟨rfl, ⟨rfl, ⟨(Zi _ _ _), trivial⟩⟩⟩ (by rfl) ⟨rfl, ⟨rfl, ⟨(Zi _ _ _), trivial⟩⟩⟩ ⟨.inl (by decide), ⟨.inr rfl, ⟨.inr rfl, trivial⟩⟩⟩ rfl rfl rfl (Zb (Zj rfl rfl) (Zb (Zj rfl rfl) (Zb (Zj rfl (Zm _ _ _)) rfl))) (Zb (Zj rfl (Z0 rfl)) rfl))

noncomputable def Zgp (a0 a1 a2 a3 : Int) (L4 : List R_ii) (o5 : Nat) (L6 : List R_iiii) (n7 n8 : Nat) (L9 : List R_ii) (L10 L11 : List Int) (a12 a13 a14 : Int) (O2 : Obj) : Zq → Value
 | .r0 w6 => vi w6
noncomputable def ZfO (a0 a1 a2 a3 : Int) (L4 : List R_ii) (o5 : Nat) (L6 : List R_iiii) (n7 n8 : Nat) (L9 : List R_ii) (L10 L11 : List Int) (a12 a13 a14 : Int) (O2 : Obj) : Zq → List (Option AObj)
 | .r0 w6 => [some (.cells [vs 1 0 L4.length L4.length, vs 2 o5 n7 n8, vs 3 0 L9.length L9.length, vs 4 0 L10.length L10.length, vs 5 0 L11.length L11.length, vi a12, vi a13, vi a14] 50), some (.cells (Za Zd L4) 76), some (.ro O2), some (.cells (Za Zd L9) 63), some (.cells (Za eI L10) 3), some (.cells (Za eI L11) 3)]

theorem Zj2 (a0 a1 a2 a3 : Int) (L4 : List R_ii) (o5 : Nat) (L6 : List R_iiii) (n7 n8 : Nat) (L9 : List R_ii) (L10 L11 : List Int) (a12 a13 a14 : Int) (O2 : Obj) (F2 : ZA O2 o5 L6) (N : Nat) : Fx Try.prog Z8 Try.f34 [.cells [vs 1 0 L4.length L4.length, vs 2 o5 n7 n8, vs 3 0 L9.length L9.length, vs 4 0 L10.length L10.length, vs 5 0 L11.length L11.length, vi a12, vi a13, vi a14] 50, .cells (Za Zd L4) 76, .ro O2, .cells (Za Zd L9) 63, .cells (Za eI L10) 3, .cells (Za eI L11) 3] #[vp 0 0, Value.agg #[vi a0, vi a1, vi a2, vi a3]] (Zgp a0 a1 a2 a3 L4 o5 L6 n7 n8 L9 L10 L11 a12 a13 a14 O2) (ZfO a0 a1 a2 a3 L4 o5 L6 n7 n8 L9 L10 L11 a12 a13 a14 O2) (ZbM a0 a1 a2 a3 L4 L6 n7 n8 L9 L10 L11 a12 a13 a14 N) := by
 unfold ZbM
 refine Zo (fun g0 => ?_) (fun g0 => ?_)
 ·
  refine Zo (fun g1 => ?_) (fun g1 => ?_)
  ·
   refine ZZ (fun z2 c2 => ?_)
   cases z2 with
   | r0 y2_0 =>
    refine Zo (fun g3 => ?_) (fun g3 => ?_)
    ·
     exact Zn (r := (.r0 ((140 : Int)) : Zq)) (fu := 4000) (orc := (Zk [(0, true), (1, true), (2, true)] [] [] [] [(0, (Zv (a0) (a1) (a2) (a3)  y2_0  7))])) (live := [0, 1, 2, 3, 4, 5]) (u := vi (140 : Int)) (bl := [some (.cells [vs 1 0 L4.length L4.length, vs 2 o5 n7 n8, vs 3 0 L9.length L9.length, vs 4 0 L10.length L10.length, vs 5 0 L11.length L11.length, vi a12, vi a13, vi a14] 50), some (.cells (Za Zd L4) 76), some (.ro O2), some (.cells (Za Zd L9) 63), some (.cells (Za eI L10) 3), some (.cells (Za eI L11) 3)]) (ob := [((y2_0 == (0 : Int)), true), (dP (Zu #[Value.agg #[vi a0, vi a1, vi a2, vi a3]] (a0) (a1) (a2) (a3)  y2_0  7), true), ((decide ((L4.length : Int) ≥ (8 : Int))), true), ((a0 == (15 : Int)), true)]) (by kernel_rfl) (oT <| Zc (Zg (Zw #[Value.agg #[vi a0, vi a1, vi a2, vi a3]] (a0) (a1) (a2) (a3)  y2_0 N c2  7 rfl (by decide) (by decide))) <| oY <| oT Zh) rfl (by decide) (by rfl) rr ⟨⟨rfl, ⟨[], by rfl⟩, by rfl⟩, ⟨(Ze (E := Zd) (α := R_ii) _ L4 _), ⟨rfl, ⟨(Ze (E := Zd) (α := R_ii) _ L9 _), ⟨(Ze (E := eI) (α := Int) _ L10 _), ⟨(Ze (E := eI) (α := Int) _ L11 _), trivial⟩⟩⟩⟩⟩⟩
    ·
     refine ZZ (fun z4 c4 => ?_)
     cases z4 with
     | r0 y4_0 =>
      refine Zo (fun g5 => ?_) (fun g5 => ?_)
      ·
       exact Zn (r := (.r0 ((120 : Int)) : Zq)) (fu := 4000) (orc := (Zk [(0, true), (1, true), (2, false), (3, true)] [] [] [] [(0, (Zv (a0) (a1) (a2) (a3)  y2_0  7)), (1, (Zv (a0) (a1) (a2) (a3)  y4_0  7))])) (live := [0, 1, 2, 3, 4, 5]) (u := vi (120 : Int)) (bl := [some (.cells [vs 1 0 L4.length L4.length, vs 2 o5 n7 n8, vs 3 0 L9.length L9.length, vs 4 0 L10.length L10.length, vs 5 0 L11.length L11.length, vi a12, vi a13, vi a14] 50), some (.cells (Za Zd L4) 76), some (.ro O2), some (.cells (Za Zd L9) 63), some (.cells (Za eI L10) 3), some (.cells (Za eI L11) 3)]) (ob := [((y4_0 != (0 : Int)), true), (dP (Zu #[Value.agg #[vi a0, vi a1, vi a2, vi a3]] (a0) (a1) (a2) (a3)  y4_0  7), true), ((y2_0 == (0 : Int)), false), (dP (Zu #[Value.agg #[vi a0, vi a1, vi a2, vi a3]] (a0) (a1) (a2) (a3)  y2_0  7), true), ((decide ((L4.length : Int) ≥ (8 : Int))), true), ((a0 == (15 : Int)), true)]) (by kernel_rfl) (oD <| Zc (Zg (Zw #[Value.agg #[vi a0, vi a1, vi a2, vi a3]] (a0) (a1) (a2) (a3)  y4_0 N c4  7 rfl (by decide) (by decide))) <| oF <| Zc (Zg (Zw #[Value.agg #[vi a0, vi a1, vi a2, vi a3]] (a0) (a1) (a2) (a3)  y2_0 N c2  7 rfl (by decide) (by decide))) <| oY <| oT Zh) rfl (by decide) (by rfl) rr ⟨⟨rfl, ⟨[], by rfl⟩, by rfl⟩, ⟨(Ze (E := Zd) (α := R_ii) _ L4 _), ⟨rfl, ⟨(Ze (E := Zd) (α := R_ii) _ L9 _), ⟨(Ze (E := eI) (α := Int) _ L10 _), ⟨(Ze (E := eI) (α := Int) _ L11 _), trivial⟩⟩⟩⟩⟩⟩
      ·
       exact Zn (r := (.r0 ((0 : Int)) : Zq)) (fu := 4000) (orc := (Zk [(0, true), (1, true), (2, false), (3, false)] [] [] [] [(0, (Zv (a0) (a1) (a2) (a3)  y2_0  7)), (1, (Zv (a0) (a1) (a2) (a3)  y4_0  7))])) (live := [0, 1, 2, 3, 4, 5]) (u := vi (0 : Int)) (bl := [some (.cells [vs 1 0 L4.length L4.length, vs 2 o5 n7 n8, vs 3 0 L9.length L9.length, vs 4 0 L10.length L10.length, vs 5 0 L11.length L11.length, vi a12, vi a13, vi a14] 50), some (.cells (Za Zd L4) 76), some (.ro O2), some (.cells (Za Zd L9) 63), some (.cells (Za eI L10) 3), some (.cells (Za eI L11) 3)]) (ob := [((y4_0 != (0 : Int)), false), (dP (Zu #[Value.agg #[vi a0, vi a1, vi a2, vi a3]] (a0) (a1) (a2) (a3)  y4_0  7), true), ((y2_0 == (0 : Int)), false), (dP (Zu #[Value.agg #[vi a0, vi a1, vi a2, vi a3]] (a0) (a1) (a2) (a3)  y2_0  7), true), ((decide ((L4.length : Int) ≥ (8 : Int))), true), ((a0 == (15 : Int)), true)]) (by kernel_rfl) (oE <| Zc (Zg (Zw #[Value.agg #[vi a0, vi a1, vi a2, vi a3]] (a0) (a1) (a2) (a3)  y4_0 N c4  7 rfl (by decide) (by decide))) <| oF <| Zc (Zg (Zw #[Value.agg #[vi a0, vi a1, vi a2, vi a3]] (a0) (a1) (a2) (a3)  y2_0 N c2  7 rfl (by decide) (by decide))) <| oY <| oT Zh) rfl (by decide) (by rfl) rr ⟨⟨rfl, ⟨[], by rfl⟩, by rfl⟩, ⟨(Ze (E := Zd) (α := R_ii) _ L4 _), ⟨rfl, ⟨(Ze (E := Zd) (α := R_ii) _ L9 _), ⟨(Ze (E := eI) (α := Int) _ L10 _), ⟨(Ze (E := eI) (α := Int) _ L11 _), trivial⟩⟩⟩⟩⟩⟩
  ·
   refine ZZ (fun z2 c2 => ?_)
   cases z2 with
   | r0 y2_0 =>
    refine Zo (fun g3 => ?_) (fun g3 => ?_)
    ·
     exact Zn (r := (.r0 ((120 : Int)) : Zq)) (fu := 4000) (orc := (Zk [(0, true), (1, false), (2, true)] [] [] [] [(0, (Zv (a0) (a1) (a2) (a3)  y2_0  7))])) (live := [0, 1, 2, 3, 4, 5]) (u := vi (120 : Int)) (bl := [some (.cells [vs 1 0 L4.length L4.length, vs 2 o5 n7 n8, vs 3 0 L9.length L9.length, vs 4 0 L10.length L10.length, vs 5 0 L11.length L11.length, vi a12, vi a13, vi a14] 50), some (.cells (Za Zd L4) 76), some (.ro O2), some (.cells (Za Zd L9) 63), some (.cells (Za eI L10) 3), some (.cells (Za eI L11) 3)]) (ob := [((y2_0 != (0 : Int)), true), (dP (Zu #[Value.agg #[vi a0, vi a1, vi a2, vi a3]] (a0) (a1) (a2) (a3)  y2_0  7), true), ((decide ((L4.length : Int) ≥ (8 : Int))), false), ((a0 == (15 : Int)), true)]) (by kernel_rfl) (oD <| Zc (Zg (Zw #[Value.agg #[vi a0, vi a1, vi a2, vi a3]] (a0) (a1) (a2) (a3)  y2_0 N c2  7 rfl (by decide) (by decide))) <| oN <| oT Zh) rfl (by decide) (by rfl) rr ⟨⟨rfl, ⟨[], by rfl⟩, by rfl⟩, ⟨(Ze (E := Zd) (α := R_ii) _ L4 _), ⟨rfl, ⟨(Ze (E := Zd) (α := R_ii) _ L9 _), ⟨(Ze (E := eI) (α := Int) _ L10 _), ⟨(Ze (E := eI) (α := Int) _ L11 _), trivial⟩⟩⟩⟩⟩⟩
    ·
     exact Zn (r := (.r0 ((0 : Int)) : Zq)) (fu := 4000) (orc := (Zk [(0, true), (1, false), (2, false)] [] [] [] [(0, (Zv (a0) (a1) (a2) (a3)  y2_0  7))])) (live := [0, 1, 2, 3, 4, 5]) (u := vi (0 : Int)) (bl := [some (.cells [vs 1 0 L4.length L4.length, vs 2 o5 n7 n8, vs 3 0 L9.length L9.length, vs 4 0 L10.length L10.length, vs 5 0 L11.length L11.length, vi a12, vi a13, vi a14] 50), some (.cells (Za Zd L4) 76), some (.ro O2), some (.cells (Za Zd L9) 63), some (.cells (Za eI L10) 3), some (.cells (Za eI L11) 3)]) (ob := [((y2_0 != (0 : Int)), false), (dP (Zu #[Value.agg #[vi a0, vi a1, vi a2, vi a3]] (a0) (a1) (a2) (a3)  y2_0  7), true), ((decide ((L4.length : Int) ≥ (8 : Int))), false), ((a0 == (15 : Int)), true)]) (by kernel_rfl) (oE <| Zc (Zg (Zw #[Value.agg #[vi a0, vi a1, vi a2, vi a3]] (a0) (a1) (a2) (a3)  y2_0 N c2  7 rfl (by decide) (by decide))) <| oN <| oT Zh) rfl (by decide) (by rfl) rr ⟨⟨rfl, ⟨[], by rfl⟩, by rfl⟩, ⟨(Ze (E := Zd) (α := R_ii) _ L4 _), ⟨rfl, ⟨(Ze (E := Zd) (α := R_ii) _ L9 _), ⟨(Ze (E := eI) (α := Int) _ L10 _), ⟨(Ze (E := eI) (α := Int) _ L11 _), trivial⟩⟩⟩⟩⟩⟩
 ·
  refine Zo (fun g1 => ?_) (fun g1 => ?_)
  ·
   refine Zo (fun g2 => ?_) (fun g2 => ?_)
   ·
    exact Zn (r := (.r0 ((120 : Int)) : Zq)) (fu := 4000) (orc := (Zk [(0, false), (1, true), (2, true)] [] [] [] [])) (live := [0, 1, 2, 3, 4, 5]) (u := vi (120 : Int)) (bl := [some (.cells [vs 1 0 L4.length L4.length, vs 2 o5 n7 n8, vs 3 0 L9.length L9.length, vs 4 0 L10.length L10.length, vs 5 0 L11.length L11.length, vi a12, vi a13, vi a14] 50), some (.cells (Za Zd L4) 76), some (.ro O2), some (.cells (Za Zd L9) 63), some (.cells (Za eI L10) 3), some (.cells (Za eI L11) 3)]) (ob := [(((L4.length : Int) == (0 : Int)), true), ((a0 == (16 : Int)), true), ((a0 == (15 : Int)), false)]) (by kernel_rfl) (oT <| oT <| oF Zh) rfl (by decide) (by rfl) rr ⟨⟨rfl, ⟨[], by rfl⟩, by rfl⟩, ⟨(Ze (E := Zd) (α := R_ii) _ L4 _), ⟨rfl, ⟨(Ze (E := Zd) (α := R_ii) _ L9 _), ⟨(Ze (E := eI) (α := Int) _ L10 _), ⟨(Ze (E := eI) (α := Int) _ L11 _), trivial⟩⟩⟩⟩⟩⟩
   ·
    refine Zo (fun g3 => ?_) (fun g3 => ?_)
    ·
     refine Zo (fun g4 => ?_) (fun g4 => ?_)
     ·
      exact Zn (r := (.r0 ((120 : Int)) : Zq)) (fu := 4000) (orc := (Zk [(0, false), (1, true), (2, false), (3, true)] [(0, (((L4.length - 1) : Nat) : Int))] [(0, (L4.length - 1))] [(4, [.i (L4.getD (L4.length - 1) R_ii.z).a1])] [])) (live := [0, 1, 2, 3, 4, 5]) (u := vi (120 : Int)) (bl := [some (.cells [vs 1 0 L4.length L4.length, vs 2 o5 n7 n8, vs 3 0 L9.length L9.length, vs 4 0 L10.length L10.length, vs 5 0 L11.length L11.length, vi a12, vi a13, vi a14] 50), some (.cells (Za Zd L4) 76), some (.ro O2), some (.cells (Za Zd L9) 63), some (.cells (Za eI L10) 3), some (.cells (Za eI L11) 3)]) (ob := [((decide ((L4.getD (L4.length - 1) R_ii.z).a1 ≥ (0 : Int))), true), (ZB (Zy 1 (List.drop ((0 + ((L4.length - 1) * 2)) + 1) (Za Zd L4))) [.i (L4.getD (L4.length - 1) R_ii.z).a1], true), (Nat.blt (L4.length - 1) L4.length, true), ((((L4.length - 1) : Nat) : Int) == Int.ofNat (L4.length - 1), true), ((IntKind.i64.wrap ((L4.length : Int) - (1 : Int))) == (((L4.length - 1) : Nat) : Int), true), (((L4.length : Int) == (0 : Int)), false), ((a0 == (16 : Int)), true), ((a0 == (15 : Int)), false)]) (by kernel_rfl) (oY <| Zc (Z3 (E := Zd) (L := L4) (i := (L4.length - 1)) (q := 1) (by omega) (show ((0 + ((L4.length - 1) * 2)) + 1) = (L4.length - 1) * 2 + 1 from by omega) (show 1 + 1 ≤ 2 from by decide) rfl rfl) <| oB <| oI <| Zc (beq_iff_eq.2 ((wrap_i64 ltA).trans (by first | rfl | omega))) <| oF <| oT <| oF Zh) rfl (by decide) (by rfl) rr ⟨⟨rfl, ⟨[], by rfl⟩, by rfl⟩, ⟨(Ze (E := Zd) (α := R_ii) _ L4 _), ⟨rfl, ⟨(Ze (E := Zd) (α := R_ii) _ L9 _), ⟨(Ze (E := eI) (α := Int) _ L10 _), ⟨(Ze (E := eI) (α := Int) _ L11 _), trivial⟩⟩⟩⟩⟩⟩
     ·
      refine ZZ (fun z5 c5 => ?_)
      cases z5 with
      | r0 y5_0 =>
       refine Zo (fun g6 => ?_) (fun g6 => ?_)
       ·
        exact Zn (r := (.r0 ((120 : Int)) : Zq)) (fu := 4000) (orc := (Zk [(0, false), (1, true), (2, false), (3, false), (4, true)] [(0, (((L4.length - 1) : Nat) : Int))] [(0, (L4.length - 1))] [(4, [.i (L4.getD (L4.length - 1) R_ii.z).a1])] [(0, (Zv (a0) (a1) (a2) (a3)  y5_0  7))])) (live := [0, 1, 2, 3, 4, 5]) (u := vi (120 : Int)) (bl := [some (.cells [vs 1 0 L4.length L4.length, vs 2 o5 n7 n8, vs 3 0 L9.length L9.length, vs 4 0 L10.length L10.length, vs 5 0 L11.length L11.length, vi a12, vi a13, vi a14] 50), some (.cells (Za Zd L4) 76), some (.ro O2), some (.cells (Za Zd L9) 63), some (.cells (Za eI L10) 3), some (.cells (Za eI L11) 3)]) (ob := [((y5_0 != (0 : Int)), true), (dP (Zu #[Value.agg #[vi a0, vi a1, vi a2, vi a3]] (a0) (a1) (a2) (a3)  y5_0  7), true), ((decide ((L4.getD (L4.length - 1) R_ii.z).a1 ≥ (0 : Int))), false), (ZB (Zy 1 (List.drop ((0 + ((L4.length - 1) * 2)) + 1) (Za Zd L4))) [.i (L4.getD (L4.length - 1) R_ii.z).a1], true), (Nat.blt (L4.length - 1) L4.length, true), ((((L4.length - 1) : Nat) : Int) == Int.ofNat (L4.length - 1), true), ((IntKind.i64.wrap ((L4.length : Int) - (1 : Int))) == (((L4.length - 1) : Nat) : Int), true), (((L4.length : Int) == (0 : Int)), false), ((a0 == (16 : Int)), true), ((a0 == (15 : Int)), false)]) (by kernel_rfl) (oD <| Zc (Zg (Zw #[Value.agg #[vi a0, vi a1, vi a2, vi a3]] (a0) (a1) (a2) (a3)  y5_0 N c5  7 rfl (by decide) (by decide))) <| oN <| Zc (Z3 (E := Zd) (L := L4) (i := (L4.length - 1)) (q := 1) (by omega) (show ((0 + ((L4.length - 1) * 2)) + 1) = (L4.length - 1) * 2 + 1 from by omega) (show 1 + 1 ≤ 2 from by decide) rfl rfl) <| oB <| oI <| Zc (beq_iff_eq.2 ((wrap_i64 ltA).trans (by first | rfl | omega))) <| oF <| oT <| oF Zh) rfl (by decide) (by rfl) rr ⟨⟨rfl, ⟨[], by rfl⟩, by rfl⟩, ⟨(Ze (E := Zd) (α := R_ii) _ L4 _), ⟨rfl, ⟨(Ze (E := Zd) (α := R_ii) _ L9 _), ⟨(Ze (E := eI) (α := Int) _ L10 _), ⟨(Ze (E := eI) (α := Int) _ L11 _), trivial⟩⟩⟩⟩⟩⟩
       ·
        exact Zn (r := (.r0 ((0 : Int)) : Zq)) (fu := 4000) (orc := (Zk [(0, false), (1, true), (2, false), (3, false), (4, false)] [(0, (((L4.length - 1) : Nat) : Int))] [(0, (L4.length - 1))] [(4, [.i (L4.getD (L4.length - 1) R_ii.z).a1])] [(0, (Zv (a0) (a1) (a2) (a3)  y5_0  7))])) (live := [0, 1, 2, 3, 4, 5]) (u := vi (0 : Int)) (bl := [some (.cells [vs 1 0 L4.length L4.length, vs 2 o5 n7 n8, vs 3 0 L9.length L9.length, vs 4 0 L10.length L10.length, vs 5 0 L11.length L11.length, vi a12, vi a13, vi a14] 50), some (.cells (Za Zd L4) 76), some (.ro O2), some (.cells (Za Zd L9) 63), some (.cells (Za eI L10) 3), some (.cells (Za eI L11) 3)]) (ob := [((y5_0 != (0 : Int)), false), (dP (Zu #[Value.agg #[vi a0, vi a1, vi a2, vi a3]] (a0) (a1) (a2) (a3)  y5_0  7), true), ((decide ((L4.getD (L4.length - 1) R_ii.z).a1 ≥ (0 : Int))), false), (ZB (Zy 1 (List.drop ((0 + ((L4.length - 1) * 2)) + 1) (Za Zd L4))) [.i (L4.getD (L4.length - 1) R_ii.z).a1], true), (Nat.blt (L4.length - 1) L4.length, true), ((((L4.length - 1) : Nat) : Int) == Int.ofNat (L4.length - 1), true), ((IntKind.i64.wrap ((L4.length : Int) - (1 : Int))) == (((L4.length - 1) : Nat) : Int), true), (((L4.length : Int) == (0 : Int)), false), ((a0 == (16 : Int)), true), ((a0 == (15 : Int)), false)]) (by kernel_rfl) (oE <| Zc (Zg (Zw #[Value.agg #[vi a0, vi a1, vi a2, vi a3]] (a0) (a1) (a2) (a3)  y5_0 N c5  7 rfl (by decide) (by decide))) <| oN <| Zc (Z3 (E := Zd) (L := L4) (i := (L4.length - 1)) (q := 1) (by omega) (show ((0 + ((L4.length - 1) * 2)) + 1) = (L4.length - 1) * 2 + 1 from by omega) (show 1 + 1 ≤ 2 from by decide) rfl rfl) <| oB <| oI <| Zc (beq_iff_eq.2 ((wrap_i64 ltA).trans (by first | rfl | omega))) <| oF <| oT <| oF Zh) rfl (by decide) (by rfl) rr ⟨⟨rfl, ⟨[], by rfl⟩, by rfl⟩, ⟨(Ze (E := Zd) (α := R_ii) _ L4 _), ⟨rfl, ⟨(Ze (E := Zd) (α := R_ii) _ L9 _), ⟨(Ze (E := eI) (α := Int) _ L10 _), ⟨(Ze (E := eI) (α := Int) _ L11 _), trivial⟩⟩⟩⟩⟩⟩
    ·
     exact ZM
  ·
   refine Zo (fun g2 => ?_) (fun g2 => ?_)
   ·
    refine Zo (fun g3 => ?_) (fun g3 => ?_)
    ·
     exact Zn (r := (.r0 ((120 : Int)) : Zq)) (fu := 4000) (orc := (Zk [(0, false), (1, false), (2, true), (3, true)] [] [] [] [])) (live := [0, 1, 2, 3, 4, 5]) (u := vi (120 : Int)) (bl := [some (.cells [vs 1 0 L4.length L4.length, vs 2 o5 n7 n8, vs 3 0 L9.length L9.length, vs 4 0 L10.length L10.length, vs 5 0 L11.length L11.length, vi a12, vi a13, vi a14] 50), some (.cells (Za Zd L4) 76), some (.ro O2), some (.cells (Za Zd L9) 63), some (.cells (Za eI L10) 3), some (.cells (Za eI L11) 3)]) (ob := [(((L4.length : Int) == (0 : Int)), true), ((a0 == (17 : Int)), true), ((a0 == (16 : Int)), false), ((a0 == (15 : Int)), false)]) (by kernel_rfl) (oT <| oT <| oF <| oF Zh) rfl (by decide) (by rfl) rr ⟨⟨rfl, ⟨[], by rfl⟩, by rfl⟩, ⟨(Ze (E := Zd) (α := R_ii) _ L4 _), ⟨rfl, ⟨(Ze (E := Zd) (α := R_ii) _ L9 _), ⟨(Ze (E := eI) (α := Int) _ L10 _), ⟨(Ze (E := eI) (α := Int) _ L11 _), trivial⟩⟩⟩⟩⟩⟩
    ·
     refine ZZ (fun z4 c4 => ?_)
     cases z4 with
     | r0 y4_0 =>
      refine Zo (fun g5 => ?_) (fun g5 => ?_)
      ·
       exact Zn (r := (.r0 ((120 : Int)) : Zq)) (fu := 4000) (orc := (Zk [(0, false), (1, false), (2, true), (3, false), (4, true)] [] [] [] [(0, (Zv (a0) (a1) (a2) (a3)  y4_0  7))])) (live := [0, 1, 2, 3, 4, 5]) (u := vi (120 : Int)) (bl := [some (.cells [vs 1 0 L4.length L4.length, vs 2 o5 n7 n8, vs 3 0 L9.length L9.length, vs 4 0 L10.length L10.length, vs 5 0 L11.length L11.length, vi a12, vi a13, vi a14] 50), some (.cells (Za Zd L4) 76), some (.ro O2), some (.cells (Za Zd L9) 63), some (.cells (Za eI L10) 3), some (.cells (Za eI L11) 3)]) (ob := [((y4_0 != (0 : Int)), true), (dP (Zu #[Value.agg #[vi a0, vi a1, vi a2, vi a3]] (a0) (a1) (a2) (a3)  y4_0  7), true), (((L4.length : Int) == (0 : Int)), false), ((a0 == (17 : Int)), true), ((a0 == (16 : Int)), false), ((a0 == (15 : Int)), false)]) (by kernel_rfl) (oD <| Zc (Zg (Zw #[Value.agg #[vi a0, vi a1, vi a2, vi a3]] (a0) (a1) (a2) (a3)  y4_0 N c4  7 rfl (by decide) (by decide))) <| oF <| oT <| oF <| oF Zh) rfl (by decide) (by rfl) rr ⟨⟨rfl, ⟨[], by rfl⟩, by rfl⟩, ⟨(Ze (E := Zd) (α := R_ii) _ L4 _), ⟨rfl, ⟨(Ze (E := Zd) (α := R_ii) _ L9 _), ⟨(Ze (E := eI) (α := Int) _ L10 _), ⟨(Ze (E := eI) (α := Int) _ L11 _), trivial⟩⟩⟩⟩⟩⟩
      ·
       exact Zn (r := (.r0 ((0 : Int)) : Zq)) (fu := 4000) (orc := (Zk [(0, false), (1, false), (2, true), (3, false), (4, false)] [] [] [] [(0, (Zv (a0) (a1) (a2) (a3)  y4_0  7))])) (live := [0, 1, 2, 3, 4, 5]) (u := vi (0 : Int)) (bl := [some (.cells [vs 1 0 L4.length L4.length, vs 2 o5 n7 n8, vs 3 0 L9.length L9.length, vs 4 0 L10.length L10.length, vs 5 0 L11.length L11.length, vi a12, vi a13, vi a14] 50), some (.cells (Za Zd L4) 76), some (.ro O2), some (.cells (Za Zd L9) 63), some (.cells (Za eI L10) 3), some (.cells (Za eI L11) 3)]) (ob := [((y4_0 != (0 : Int)), false), (dP (Zu #[Value.agg #[vi a0, vi a1, vi a2, vi a3]] (a0) (a1) (a2) (a3)  y4_0  7), true), (((L4.length : Int) == (0 : Int)), false), ((a0 == (17 : Int)), true), ((a0 == (16 : Int)), false), ((a0 == (15 : Int)), false)]) (by kernel_rfl) (oE <| Zc (Zg (Zw #[Value.agg #[vi a0, vi a1, vi a2, vi a3]] (a0) (a1) (a2) (a3)  y4_0 N c4  7 rfl (by decide) (by decide))) <| oF <| oT <| oF <| oF Zh) rfl (by decide) (by rfl) rr ⟨⟨rfl, ⟨[], by rfl⟩, by rfl⟩, ⟨(Ze (E := Zd) (α := R_ii) _ L4 _), ⟨rfl, ⟨(Ze (E := Zd) (α := R_ii) _ L9 _), ⟨(Ze (E := eI) (α := Int) _ L10 _), ⟨(Ze (E := eI) (α := Int) _ L11 _), trivial⟩⟩⟩⟩⟩⟩
   ·
    refine Zo (fun g3 => ?_) (fun g3 => ?_)
    ·
     refine Zo (fun g4 => ?_) (fun g4 => ?_)
     ·
      exact Zn (r := (.r0 ((120 : Int)) : Zq)) (fu := 4000) (orc := (Zk [(0, false), (1, false), (2, false), (3, true), (4, true)] [] [] [] [])) (live := [0, 1, 2, 3, 4, 5]) (u := vi (120 : Int)) (bl := [some (.cells [vs 1 0 L4.length L4.length, vs 2 o5 n7 n8, vs 3 0 L9.length L9.length, vs 4 0 L10.length L10.length, vs 5 0 L11.length L11.length, vi a12, vi a13, vi a14] 50), some (.cells (Za Zd L4) 76), some (.ro O2), some (.cells (Za Zd L9) 63), some (.cells (Za eI L10) 3), some (.cells (Za eI L11) 3)]) (ob := [(((L4.length : Int) == (0 : Int)), true), ((a0 == (18 : Int)), true), ((a0 == (17 : Int)), false), ((a0 == (16 : Int)), false), ((a0 == (15 : Int)), false)]) (by kernel_rfl) (oT <| oT <| oF <| oF <| oF Zh) rfl (by decide) (by rfl) rr ⟨⟨rfl, ⟨[], by rfl⟩, by rfl⟩, ⟨(Ze (E := Zd) (α := R_ii) _ L4 _), ⟨rfl, ⟨(Ze (E := Zd) (α := R_ii) _ L9 _), ⟨(Ze (E := eI) (α := Int) _ L10 _), ⟨(Ze (E := eI) (α := Int) _ L11 _), trivial⟩⟩⟩⟩⟩⟩
     ·
      refine ZZ (fun z5 c5 => ?_)
      cases z5 with
      | r0 y5_0 =>
       refine Zo (fun g6 => ?_) (fun g6 => ?_)
       ·
        exact Zn (r := (.r0 ((120 : Int)) : Zq)) (fu := 4000) (orc := (Zk [(0, false), (1, false), (2, false), (3, true), (4, false), (5, true)] [] [] [] [(0, (Zv (a0) (a1) (a2) (a3)  y5_0  7))])) (live := [0, 1, 2, 3, 4, 5]) (u := vi (120 : Int)) (bl := [some (.cells [vs 1 0 L4.length L4.length, vs 2 o5 n7 n8, vs 3 0 L9.length L9.length, vs 4 0 L10.length L10.length, vs 5 0 L11.length L11.length, vi a12, vi a13, vi a14] 50), some (.cells (Za Zd L4) 76), some (.ro O2), some (.cells (Za Zd L9) 63), some (.cells (Za eI L10) 3), some (.cells (Za eI L11) 3)]) (ob := [((y5_0 != (0 : Int)), true), (dP (Zu #[Value.agg #[vi a0, vi a1, vi a2, vi a3]] (a0) (a1) (a2) (a3)  y5_0  7), true), (((L4.length : Int) == (0 : Int)), false), ((a0 == (18 : Int)), true), ((a0 == (17 : Int)), false), ((a0 == (16 : Int)), false), ((a0 == (15 : Int)), false)]) (by kernel_rfl) (oD <| Zc (Zg (Zw #[Value.agg #[vi a0, vi a1, vi a2, vi a3]] (a0) (a1) (a2) (a3)  y5_0 N c5  7 rfl (by decide) (by decide))) <| oF <| oT <| oF <| oF <| oF Zh) rfl (by decide) (by rfl) rr ⟨⟨rfl, ⟨[], by rfl⟩, by rfl⟩, ⟨(Ze (E := Zd) (α := R_ii) _ L4 _), ⟨rfl, ⟨(Ze (E := Zd) (α := R_ii) _ L9 _), ⟨(Ze (E := eI) (α := Int) _ L10 _), ⟨(Ze (E := eI) (α := Int) _ L11 _), trivial⟩⟩⟩⟩⟩⟩
       ·
        exact Zn (r := (.r0 ((0 : Int)) : Zq)) (fu := 4000) (orc := (Zk [(0, false), (1, false), (2, false), (3, true), (4, false), (5, false)] [] [] [] [(0, (Zv (a0) (a1) (a2) (a3)  y5_0  7))])) (live := [0, 1, 2, 3, 4, 5]) (u := vi (0 : Int)) (bl := [some (.cells [vs 1 0 L4.length L4.length, vs 2 o5 n7 n8, vs 3 0 L9.length L9.length, vs 4 0 L10.length L10.length, vs 5 0 L11.length L11.length, vi a12, vi a13, vi a14] 50), some (.cells (Za Zd L4) 76), some (.ro O2), some (.cells (Za Zd L9) 63), some (.cells (Za eI L10) 3), some (.cells (Za eI L11) 3)]) (ob := [((y5_0 != (0 : Int)), false), (dP (Zu #[Value.agg #[vi a0, vi a1, vi a2, vi a3]] (a0) (a1) (a2) (a3)  y5_0  7), true), (((L4.length : Int) == (0 : Int)), false), ((a0 == (18 : Int)), true), ((a0 == (17 : Int)), false), ((a0 == (16 : Int)), false), ((a0 == (15 : Int)), false)]) (by kernel_rfl) (oE <| Zc (Zg (Zw #[Value.agg #[vi a0, vi a1, vi a2, vi a3]] (a0) (a1) (a2) (a3)  y5_0 N c5  7 rfl (by decide) (by decide))) <| oF <| oT <| oF <| oF <| oF Zh) rfl (by decide) (by rfl) rr ⟨⟨rfl, ⟨[], by rfl⟩, by rfl⟩, ⟨(Ze (E := Zd) (α := R_ii) _ L4 _), ⟨rfl, ⟨(Ze (E := Zd) (α := R_ii) _ L9 _), ⟨(Ze (E := eI) (α := Int) _ L10 _), ⟨(Ze (E := eI) (α := Int) _ L11 _), trivial⟩⟩⟩⟩⟩⟩
    ·
     refine Zo (fun g4 => ?_) (fun g4 => ?_)
     ·
      refine Zo (fun g5 => ?_) (fun g5 => ?_)
      ·
       exact Zn (r := (.r0 ((120 : Int)) : Zq)) (fu := 4000) (orc := (Zk [(0, false), (1, false), (2, false), (3, false), (4, true), (5, true)] [] [] [] [])) (live := [0, 1, 2, 3, 4, 5]) (u := vi (120 : Int)) (bl := [some (.cells [vs 1 0 L4.length L4.length, vs 2 o5 n7 n8, vs 3 0 L9.length L9.length, vs 4 0 L10.length L10.length, vs 5 0 L11.length L11.length, vi a12, vi a13, vi a14] 50), some (.cells (Za Zd L4) 76), some (.ro O2), some (.cells (Za Zd L9) 63), some (.cells (Za eI L10) 3), some (.cells (Za eI L11) 3)]) (ob := [((decide ((L4.length : Int) > (0 : Int))), true), ((a0 == (20 : Int)), true), ((a0 == (18 : Int)), false), ((a0 == (17 : Int)), false), ((a0 == (16 : Int)), false), ((a0 == (15 : Int)), false)]) (by kernel_rfl) (oY <| oT <| oF <| oF <| oF <| oF Zh) rfl (by decide) (by rfl) rr ⟨⟨rfl, ⟨[], by rfl⟩, by rfl⟩, ⟨(Ze (E := Zd) (α := R_ii) _ L4 _), ⟨rfl, ⟨(Ze (E := Zd) (α := R_ii) _ L9 _), ⟨(Ze (E := eI) (α := Int) _ L10 _), ⟨(Ze (E := eI) (α := Int) _ L11 _), trivial⟩⟩⟩⟩⟩⟩
      ·
       refine ZZ (fun z6 c6 => ?_)
       cases z6 with
       | r0 y6_0 =>
        refine Zo (fun g7 => ?_) (fun g7 => ?_)
        ·
         exact Zn (r := (.r0 ((120 : Int)) : Zq)) (fu := 4000) (orc := (Zk [(0, false), (1, false), (2, false), (3, false), (4, true), (5, false), (6, true)] [] [] [] [(0, (Zv (a0) (a1) (a2) (a3)  y6_0  7))])) (live := [0, 1, 2, 3, 4, 5]) (u := vi (120 : Int)) (bl := [some (.cells [vs 1 0 L4.length L4.length, vs 2 o5 n7 n8, vs 3 0 L9.length L9.length, vs 4 0 L10.length L10.length, vs 5 0 L11.length L11.length, vi a12, vi a13, vi a14] 50), some (.cells (Za Zd L4) 76), some (.ro O2), some (.cells (Za Zd L9) 63), some (.cells (Za eI L10) 3), some (.cells (Za eI L11) 3)]) (ob := [((y6_0 != (0 : Int)), true), (dP (Zu #[Value.agg #[vi a0, vi a1, vi a2, vi a3]] (a0) (a1) (a2) (a3)  y6_0  7), true), ((decide ((L4.length : Int) > (0 : Int))), false), ((a0 == (20 : Int)), true), ((a0 == (18 : Int)), false), ((a0 == (17 : Int)), false), ((a0 == (16 : Int)), false), ((a0 == (15 : Int)), false)]) (by kernel_rfl) (oD <| Zc (Zg (Zw #[Value.agg #[vi a0, vi a1, vi a2, vi a3]] (a0) (a1) (a2) (a3)  y6_0 N c6  7 rfl (by decide) (by decide))) <| oN <| oT <| oF <| oF <| oF <| oF Zh) rfl (by decide) (by rfl) rr ⟨⟨rfl, ⟨[], by rfl⟩, by rfl⟩, ⟨(Ze (E := Zd) (α := R_ii) _ L4 _), ⟨rfl, ⟨(Ze (E := Zd) (α := R_ii) _ L9 _), ⟨(Ze (E := eI) (α := Int) _ L10 _), ⟨(Ze (E := eI) (α := Int) _ L11 _), trivial⟩⟩⟩⟩⟩⟩
        ·
         exact Zn (r := (.r0 ((0 : Int)) : Zq)) (fu := 4000) (orc := (Zk [(0, false), (1, false), (2, false), (3, false), (4, true), (5, false), (6, false)] [] [] [] [(0, (Zv (a0) (a1) (a2) (a3)  y6_0  7))])) (live := [0, 1, 2, 3, 4, 5]) (u := vi (0 : Int)) (bl := [some (.cells [vs 1 0 L4.length L4.length, vs 2 o5 n7 n8, vs 3 0 L9.length L9.length, vs 4 0 L10.length L10.length, vs 5 0 L11.length L11.length, vi a12, vi a13, vi a14] 50), some (.cells (Za Zd L4) 76), some (.ro O2), some (.cells (Za Zd L9) 63), some (.cells (Za eI L10) 3), some (.cells (Za eI L11) 3)]) (ob := [((y6_0 != (0 : Int)), false), (dP (Zu #[Value.agg #[vi a0, vi a1, vi a2, vi a3]] (a0) (a1) (a2) (a3)  y6_0  7), true), ((decide ((L4.length : Int) > (0 : Int))), false), ((a0 == (20 : Int)), true), ((a0 == (18 : Int)), false), ((a0 == (17 : Int)), false), ((a0 == (16 : Int)), false), ((a0 == (15 : Int)), false)]) (by kernel_rfl) (oE <| Zc (Zg (Zw #[Value.agg #[vi a0, vi a1, vi a2, vi a3]] (a0) (a1) (a2) (a3)  y6_0 N c6  7 rfl (by decide) (by decide))) <| oN <| oT <| oF <| oF <| oF <| oF Zh) rfl (by decide) (by rfl) rr ⟨⟨rfl, ⟨[], by rfl⟩, by rfl⟩, ⟨(Ze (E := Zd) (α := R_ii) _ L4 _), ⟨rfl, ⟨(Ze (E := Zd) (α := R_ii) _ L9 _), ⟨(Ze (E := eI) (α := Int) _ L10 _), ⟨(Ze (E := eI) (α := Int) _ L11 _), trivial⟩⟩⟩⟩⟩⟩
     ·
      refine ZZ (fun z5 c5 => ?_)
      cases z5 with
      | r0 y5_0 =>
       refine Zo (fun g6 => ?_) (fun g6 => ?_)
       ·
        exact Zn (r := (.r0 ((120 : Int)) : Zq)) (fu := 4000) (orc := (Zk [(0, false), (1, false), (2, false), (3, false), (4, false), (5, true)] [] [] [] [(0, (Zv (a0) (a1) (a2) (a3)  y5_0  7))])) (live := [0, 1, 2, 3, 4, 5]) (u := vi (120 : Int)) (bl := [some (.cells [vs 1 0 L4.length L4.length, vs 2 o5 n7 n8, vs 3 0 L9.length L9.length, vs 4 0 L10.length L10.length, vs 5 0 L11.length L11.length, vi a12, vi a13, vi a14] 50), some (.cells (Za Zd L4) 76), some (.ro O2), some (.cells (Za Zd L9) 63), some (.cells (Za eI L10) 3), some (.cells (Za eI L11) 3)]) (ob := [((y5_0 != (0 : Int)), true), (dP (Zu #[Value.agg #[vi a0, vi a1, vi a2, vi a3]] (a0) (a1) (a2) (a3)  y5_0  7), true), ((a0 == (20 : Int)), false), ((a0 == (18 : Int)), false), ((a0 == (17 : Int)), false), ((a0 == (16 : Int)), false), ((a0 == (15 : Int)), false)]) (by kernel_rfl) (oD <| Zc (Zg (Zw #[Value.agg #[vi a0, vi a1, vi a2, vi a3]] (a0) (a1) (a2) (a3)  y5_0 N c5  7 rfl (by decide) (by decide))) <| oF <| oF <| oF <| oF <| oF Zh) rfl (by decide) (by rfl) rr ⟨⟨rfl, ⟨[], by rfl⟩, by rfl⟩, ⟨(Ze (E := Zd) (α := R_ii) _ L4 _), ⟨rfl, ⟨(Ze (E := Zd) (α := R_ii) _ L9 _), ⟨(Ze (E := eI) (α := Int) _ L10 _), ⟨(Ze (E := eI) (α := Int) _ L11 _), trivial⟩⟩⟩⟩⟩⟩
       ·
        exact Zn (r := (.r0 ((0 : Int)) : Zq)) (fu := 4000) (orc := (Zk [(0, false), (1, false), (2, false), (3, false), (4, false), (5, false)] [] [] [] [(0, (Zv (a0) (a1) (a2) (a3)  y5_0  7))])) (live := [0, 1, 2, 3, 4, 5]) (u := vi (0 : Int)) (bl := [some (.cells [vs 1 0 L4.length L4.length, vs 2 o5 n7 n8, vs 3 0 L9.length L9.length, vs 4 0 L10.length L10.length, vs 5 0 L11.length L11.length, vi a12, vi a13, vi a14] 50), some (.cells (Za Zd L4) 76), some (.ro O2), some (.cells (Za Zd L9) 63), some (.cells (Za eI L10) 3), some (.cells (Za eI L11) 3)]) (ob := [((y5_0 != (0 : Int)), false), (dP (Zu #[Value.agg #[vi a0, vi a1, vi a2, vi a3]] (a0) (a1) (a2) (a3)  y5_0  7), true), ((a0 == (20 : Int)), false), ((a0 == (18 : Int)), false), ((a0 == (17 : Int)), false), ((a0 == (16 : Int)), false), ((a0 == (15 : Int)), false)]) (by kernel_rfl) (oE <| Zc (Zg (Zw #[Value.agg #[vi a0, vi a1, vi a2, vi a3]] (a0) (a1) (a2) (a3)  y5_0 N c5  7 rfl (by decide) (by decide))) <| oF <| oF <| oF <| oF <| oF Zh) rfl (by decide) (by rfl) rr ⟨⟨rfl, ⟨[], by rfl⟩, by rfl⟩, ⟨(Ze (E := Zd) (α := R_ii) _ L4 _), ⟨rfl, ⟨(Ze (E := Zd) (α := R_ii) _ L9 _), ⟨(Ze (E := eI) (α := Int) _ L10 _), ⟨(Ze (E := eI) (α := Int) _ L11 _), trivial⟩⟩⟩⟩⟩⟩

theorem ZiJ (a0 a1 a2 a3 : Int) (L4 : List R_ii) (o5 : Nat) (L6 : List R_iiii) (n7 n8 : Nat) (L9 : List R_ii) (L10 L11 : List Int) (a12 a13 a14 : Int) (O2 : Obj) (F2 : ZA O2 o5 L6) (N : Nat) (r : Zq) (h : ZbM a0 a1 a2 a3 L4 L6 n7 n8 L9 L10 L11 a12 a13 a14 N = some r) : LSpec Try.prog 34 #[vp 0 0, Value.agg #[vi a0, vi a1, vi a2, vi a3]] [.cells [vs 1 0 L4.length L4.length, vs 2 o5 n7 n8, vs 3 0 L9.length L9.length, vs 4 0 L10.length L10.length, vs 5 0 L11.length L11.length, vi a12, vi a13, vi a14] 50, .cells (Za Zd L4) 76, .ro O2, .cells (Za Zd L9) 63, .cells (Za eI L10) 3, .cells (Za eI L11) 3] (Zgp a0 a1 a2 a3 L4 o5 L6 n7 n8 L9 L10 L11 a12 a13 a14 O2 r) (ZfO a0 a1 a2 a3 L4 o5 L6 n7 n8 L9 L10 L11 a12 a13 a14 O2 r) :=
 ZaB Zax Try.func34 (by kernel_rfl) (by kernel_rfl) (fun r => by cases r <;> exact Zaf _ rfl) (Zj2 a0 a1 a2 a3 L4 o5 L6 n7 n8 L9 L10 L11 a12 a13 a14 O2 F2 N) h

noncomputable def Zdg (a0 a1 a2 a3 : Int) (L4 : List R_ii) (o5 : Nat) (L6 : List R_iiii) (n7 n8 : Nat) (L9 : List R_ii) (L10 L11 : List Int) (a12 a13 a14 : Int) (O2 : Obj) (w6 : Int) (k0 k1 k2 k3 k4 k5 n : Nat) : Zag := .call [(k0, .cells [vs k1 0 L4.length L4.length, vs k2 o5 n7 n8, vs k3 0 L9.length L9.length, vs k4 0 L10.length L10.length, vs k5 0 L11.length L11.length, vi a12, vi a13, vi a14] 50), (k1, .cells (Za Zd L4) 76), (k2, .ro O2), (k3, .cells (Za Zd L9) 63), (k4, .cells (Za eI L10) 3), (k5, .cells (Za eI L11) 3)] (vi w6) [] 0
def Zc3 (A : Array Value) (a0 a1 a2 a3 : Int) (L4 : List R_ii) (o5 : Nat) (L6 : List R_iiii) (n7 n8 : Nat) (L9 : List R_ii) (L10 L11 : List Int) (a12 a13 a14 : Int) (O2 : Obj) (w6 : Int) (k0 k1 k2 k3 k4 k5 n : Nat) : Prop := Zz Try.prog 34 A [(k0, .cells [vs k1 0 L4.length L4.length, vs k2 o5 n7 n8, vs k3 0 L9.length L9.length, vs k4 0 L10.length L10.length, vs k5 0 L11.length L11.length, vi a12, vi a13, vi a14] 50), (k1, .cells (Za Zd L4) 76), (k2, .ro O2), (k3, .cells (Za Zd L9) 63), (k4, .cells (Za eI L10) 3), (k5, .cells (Za eI L11) 3)] (vi w6) [] n 0

theorem Zdh (A : Array Value) (a0 a1 a2 a3 : Int) (L4 : List R_ii) (o5 : Nat) (L6 : List R_iiii) (n7 n8 : Nat) (L9 : List R_ii) (L10 L11 : List Int) (a12 a13 a14 : Int) (O2 : Obj) (F2 : ZA O2 o5 L6) (w6 : Int) (N : Nat) (h : ZbM a0 a1 a2 a3 L4 L6 n7 n8 L9 L10 L11 a12 a13 a14 N = some (.r0 w6)) (k0 k1 k2 k3 k4 k5 n : Nat) (hA : A = #[vp k0 0, Value.agg #[vi a0, vi a1, vi a2, vi a3]]) (hnd : ([k0, k1, k2, k3, k4, k5] : List Nat).Nodup) (hlt : ∀ k ∈ ([k0, k1, k2, k3, k4, k5] : List Nat), k < n) : Zc3 A a0 a1 a2 a3 L4 o5 L6 n7 n8 L9 L10 L11 a12 a13 a14 O2 w6 k0 k1 k2 k3 k4 k5 n :=
 Z7 hA (LSpec.callL (show LSpec Try.prog 34 #[vp 0 0, Value.agg #[vi a0, vi a1, vi a2, vi a3]] [.cells [vs 1 0 L4.length L4.length, vs 2 o5 n7 n8, vs 3 0 L9.length L9.length, vs 4 0 L10.length L10.length, vs 5 0 L11.length L11.length, vi a12, vi a13, vi a14] 50, .cells (Za Zd L4) 76, .ro O2, .cells (Za Zd L9) 63, .cells (Za eI L10) 3, .cells (Za eI L11) 3] (vi w6) [some (.cells [vs 1 0 L4.length L4.length, vs 2 o5 n7 n8, vs 3 0 L9.length L9.length, vs 4 0 L10.length L10.length, vs 5 0 L11.length L11.length, vi a12, vi a13, vi a14] 50), some (.cells (Za Zd L4) 76), some (.ro O2), some (.cells (Za Zd L9) 63), some (.cells (Za eI L10) 3), some (.cells (Za eI L11) 3)] from ZiJ a0 a1 a2 a3 L4 o5 L6 n7 n8 L9 L10 L11 a12 a13 a14 O2 F2 N _ h) [k0, k1, k2, k3, k4, k5] n [] rfl hnd hlt (show 6 ≤ 6 from by decide) (show ∀ j ∈ ([] : List Nat), j < 6 from by decide) (by rfl) ⟨rfl, ⟨(Zi _ _ _), ⟨rfl, ⟨(Zi _ _ _), ⟨(Zi _ _ _), ⟨(Zi _ _ _), trivial⟩⟩⟩⟩⟩⟩ (by rfl) ⟨rfl, ⟨(Zi _ _ _), ⟨rfl, ⟨(Zi _ _ _), ⟨(Zi _ _ _), ⟨(Zi _ _ _), trivial⟩⟩⟩⟩⟩⟩ ⟨.inr rfl, ⟨.inr rfl, ⟨.inr rfl, ⟨.inr rfl, ⟨.inr rfl, ⟨.inr rfl, trivial⟩⟩⟩⟩⟩⟩ rfl rfl rfl (Zb (Zj rfl rfl) (Zb (Zj rfl (Zm _ _ _)) (Zb (Zj rfl rfl) (Zb (Zj rfl (Zm _ _ _)) (Zb (Zj rfl (Zm _ _ _)) (Zb (Zj rfl (Zm _ _ _)) rfl)))))) rfl)

noncomputable def ZfP (L0 : List R_ii) (o1 : Nat) (L2 : List R_iiii) (n3 n4 : Nat) (L5 : List R_ii) (L6 L7 : List Int) (a8 a9 a10 : Int) (O2 : Obj) : ZaN → Value
 | .r0 w6 w7 => Value.agg #[vi w6, vi w7]
noncomputable def Zf2 (L0 : List R_ii) (o1 : Nat) (L2 : List R_iiii) (n3 n4 : Nat) (L5 : List R_ii) (L6 L7 : List Int) (a8 a9 a10 : Int) (O2 : Obj) : ZaN → List (Option AObj)
 | .r0 w6 w7 => [some (.cells [vs 1 0 L0.length L0.length, vs 2 o1 n3 n4, vs 3 0 L5.length L5.length, vs 4 0 L6.length L6.length, vs 5 0 L7.length L7.length, vi a8, vi a9, vi a10] 50), some (.cells (Za Zd L0) 76), some (.ro O2), some (.cells (Za Zd L5) 63), some (.cells (Za eI L6) 3), some (.cells (Za eI L7) 3)]

theorem ZiR (L0 : List R_ii) (o1 : Nat) (L2 : List R_iiii) (n3 n4 : Nat) (L5 : List R_ii) (L6 L7 : List Int) (a8 a9 a10 : Int) (O2 : Obj) (F2 : ZA O2 o1 L2) (N : Nat) : Fx Try.prog Z8 Try.f43 [.cells [vs 1 0 L0.length L0.length, vs 2 o1 n3 n4, vs 3 0 L5.length L5.length, vs 4 0 L6.length L6.length, vs 5 0 L7.length L7.length, vi a8, vi a9, vi a10] 50, .cells (Za Zd L0) 76, .ro O2, .cells (Za Zd L5) 63, .cells (Za eI L6) 3, .cells (Za eI L7) 3] #[vp 0 0] (ZfP L0 o1 L2 n3 n4 L5 L6 L7 a8 a9 a10 O2) (Zf2 L0 o1 L2 n3 n4 L5 L6 L7 a8 a9 a10 O2) (Zbf L0 L2 n3 n4 L5 L6 L7 a8 a9 a10 N) := by
 unfold Zbf
 refine Zo (fun g0 => ?_) (fun g0 => ?_)
 ·
  exact Zn (r := (.r0 ((-1 : Int)) ((0 : Int)) : ZaN)) (fu := 4000) (orc := (Zk [(0, true)] [] [] [] [])) (live := [0, 1, 2, 3, 4, 5]) (u := Value.agg #[vi (-1 : Int), vi (0 : Int)]) (bl := [some (.cells [vs 1 0 L0.length L0.length, vs 2 o1 n3 n4, vs 3 0 L5.length L5.length, vs 4 0 L6.length L6.length, vs 5 0 L7.length L7.length, vi a8, vi a9, vi a10] 50), some (.cells (Za Zd L0) 76), some (.ro O2), some (.cells (Za Zd L5) 63), some (.cells (Za eI L6) 3), some (.cells (Za eI L7) 3)]) (ob := [(((L0.length : Int) == (0 : Int)), true)]) (by kernel_rfl) (oT Zh) rfl (by decide) (by rfl) rr ⟨⟨rfl, ⟨[], by rfl⟩, by rfl⟩, ⟨(Ze (E := Zd) (α := R_ii) _ L0 _), ⟨rfl, ⟨(Ze (E := Zd) (α := R_ii) _ L5 _), ⟨(Ze (E := eI) (α := Int) _ L6 _), ⟨(Ze (E := eI) (α := Int) _ L7 _), trivial⟩⟩⟩⟩⟩⟩
 ·
  refine Zo (fun g1 => ?_) (fun g1 => ?_)
  ·
   refine Zo (fun g2 => ?_) (fun g2 => ?_)
   ·
    exact Zn (r := (.r0 ((L0.getD (L0.length - 1) R_ii.z).a0) ((1 : Int)) : ZaN)) (fu := 4000) (orc := (Zk [(0, false), (1, true)] [(0, (((L0.length - 1) : Nat) : Int))] [(0, (L0.length - 1))] [(3, [.i (L0.getD (L0.length - 1) R_ii.z).a1]), (4, [.i (L0.getD (L0.length - 1) R_ii.z).a0])] [])) (live := [0, 1, 2, 3, 4, 5]) (u := Value.agg #[vi (L0.getD (L0.length - 1) R_ii.z).a0, vi (1 : Int)]) (bl := [some (.cells [vs 1 0 L0.length L0.length, vs 2 o1 n3 n4, vs 3 0 L5.length L5.length, vs 4 0 L6.length L6.length, vs 5 0 L7.length L7.length, vi a8, vi a9, vi a10] 50), some (.cells (Za Zd L0) 76), some (.ro O2), some (.cells (Za Zd L5) 63), some (.cells (Za eI L6) 3), some (.cells (Za eI L7) 3)]) (ob := [(ZB (Zy 1 (List.drop ((0 + ((L0.length - 1) * 2)) + 0) (Za Zd L0))) [.i (L0.getD (L0.length - 1) R_ii.z).a0], true), ((decide ((L0.getD (L0.length - 1) R_ii.z).a1 ≥ (0 : Int))), true), (ZB (Zy 1 (List.drop ((0 + ((L0.length - 1) * 2)) + 1) (Za Zd L0))) [.i (L0.getD (L0.length - 1) R_ii.z).a1], true), (Nat.blt (L0.length - 1) L0.length, true), ((((L0.length - 1) : Nat) : Int) == Int.ofNat (L0.length - 1), true), ((IntKind.i64.wrap ((L0.length : Int) - (1 : Int))) == (((L0.length - 1) : Nat) : Int), true), (((L0.length : Int) == (0 : Int)), false)]) (by kernel_rfl) (Zc (Z3 (E := Zd) (L := L0) (i := (L0.length - 1)) (q := 0) (by omega) (show ((0 + ((L0.length - 1) * 2)) + 0) = (L0.length - 1) * 2 + 0 from by omega) (show 0 + 1 ≤ 2 from by decide) rfl rfl) <| oY <| Zc (Z3 (E := Zd) (L := L0) (i := (L0.length - 1)) (q := 1) (by omega) (show ((0 + ((L0.length - 1) * 2)) + 1) = (L0.length - 1) * 2 + 1 from by omega) (show 1 + 1 ≤ 2 from by decide) rfl rfl) <| oB <| oI <| Zc (beq_iff_eq.2 ((wrap_i64 ltA).trans (by first | rfl | omega))) <| oF Zh) rfl (by decide) (by rfl) rr ⟨⟨rfl, ⟨[], by rfl⟩, by rfl⟩, ⟨(Ze (E := Zd) (α := R_ii) _ L0 _), ⟨rfl, ⟨(Ze (E := Zd) (α := R_ii) _ L5 _), ⟨(Ze (E := eI) (α := Int) _ L6 _), ⟨(Ze (E := eI) (α := Int) _ L7 _), trivial⟩⟩⟩⟩⟩⟩
   ·
    exact Zn (r := (.r0 ((L0.getD (L0.length - 1) R_ii.z).a0) ((0 : Int)) : ZaN)) (fu := 4000) (orc := (Zk [(0, false), (1, false)] [(0, (((L0.length - 1) : Nat) : Int))] [(0, (L0.length - 1))] [(3, [.i (L0.getD (L0.length - 1) R_ii.z).a1]), (4, [.i (L0.getD (L0.length - 1) R_ii.z).a0])] [])) (live := [0, 1, 2, 3, 4, 5]) (u := Value.agg #[vi (L0.getD (L0.length - 1) R_ii.z).a0, vi (0 : Int)]) (bl := [some (.cells [vs 1 0 L0.length L0.length, vs 2 o1 n3 n4, vs 3 0 L5.length L5.length, vs 4 0 L6.length L6.length, vs 5 0 L7.length L7.length, vi a8, vi a9, vi a10] 50), some (.cells (Za Zd L0) 76), some (.ro O2), some (.cells (Za Zd L5) 63), some (.cells (Za eI L6) 3), some (.cells (Za eI L7) 3)]) (ob := [(ZB (Zy 1 (List.drop ((0 + ((L0.length - 1) * 2)) + 0) (Za Zd L0))) [.i (L0.getD (L0.length - 1) R_ii.z).a0], true), ((decide ((L0.getD (L0.length - 1) R_ii.z).a1 ≥ (0 : Int))), false), (ZB (Zy 1 (List.drop ((0 + ((L0.length - 1) * 2)) + 1) (Za Zd L0))) [.i (L0.getD (L0.length - 1) R_ii.z).a1], true), (Nat.blt (L0.length - 1) L0.length, true), ((((L0.length - 1) : Nat) : Int) == Int.ofNat (L0.length - 1), true), ((IntKind.i64.wrap ((L0.length : Int) - (1 : Int))) == (((L0.length - 1) : Nat) : Int), true), (((L0.length : Int) == (0 : Int)), false)]) (by kernel_rfl) (Zc (Z3 (E := Zd) (L := L0) (i := (L0.length - 1)) (q := 0) (by omega) (show ((0 + ((L0.length - 1) * 2)) + 0) = (L0.length - 1) * 2 + 0 from by omega) (show 0 + 1 ≤ 2 from by decide) rfl rfl) <| oN <| Zc (Z3 (E := Zd) (L := L0) (i := (L0.length - 1)) (q := 1) (by omega) (show ((0 + ((L0.length - 1) * 2)) + 1) = (L0.length - 1) * 2 + 1 from by omega) (show 1 + 1 ≤ 2 from by decide) rfl rfl) <| oB <| oI <| Zc (beq_iff_eq.2 ((wrap_i64 ltA).trans (by first | rfl | omega))) <| oF Zh) rfl (by decide) (by rfl) rr ⟨⟨rfl, ⟨[], by rfl⟩, by rfl⟩, ⟨(Ze (E := Zd) (α := R_ii) _ L0 _), ⟨rfl, ⟨(Ze (E := Zd) (α := R_ii) _ L5 _), ⟨(Ze (E := eI) (α := Int) _ L6 _), ⟨(Ze (E := eI) (α := Int) _ L7 _), trivial⟩⟩⟩⟩⟩⟩
  ·
   exact ZM

theorem Zim (L0 : List R_ii) (o1 : Nat) (L2 : List R_iiii) (n3 n4 : Nat) (L5 : List R_ii) (L6 L7 : List Int) (a8 a9 a10 : Int) (O2 : Obj) (F2 : ZA O2 o1 L2) (N : Nat) (r : ZaN) (h : Zbf L0 L2 n3 n4 L5 L6 L7 a8 a9 a10 N = some r) : LSpec Try.prog 43 #[vp 0 0] [.cells [vs 1 0 L0.length L0.length, vs 2 o1 n3 n4, vs 3 0 L5.length L5.length, vs 4 0 L6.length L6.length, vs 5 0 L7.length L7.length, vi a8, vi a9, vi a10] 50, .cells (Za Zd L0) 76, .ro O2, .cells (Za Zd L5) 63, .cells (Za eI L6) 3, .cells (Za eI L7) 3] (ZfP L0 o1 L2 n3 n4 L5 L6 L7 a8 a9 a10 O2 r) (Zf2 L0 o1 L2 n3 n4 L5 L6 L7 a8 a9 a10 O2 r) :=
 ZaB Zax Try.func43 (by kernel_rfl) (by kernel_rfl) (fun r => by cases r <;> exact Zaf _ rfl) (ZiR L0 o1 L2 n3 n4 L5 L6 L7 a8 a9 a10 O2 F2 N) h

noncomputable def ZbH (L0 : List R_ii) (o1 : Nat) (L2 : List R_iiii) (n3 n4 : Nat) (L5 : List R_ii) (L6 L7 : List Int) (a8 a9 a10 : Int) (O2 : Obj) (w6 w7 : Int) (k0 k1 k2 k3 k4 k5 n : Nat) : Zag := .call [(k0, .cells [vs k1 0 L0.length L0.length, vs k2 o1 n3 n4, vs k3 0 L5.length L5.length, vs k4 0 L6.length L6.length, vs k5 0 L7.length L7.length, vi a8, vi a9, vi a10] 50), (k1, .cells (Za Zd L0) 76), (k2, .ro O2), (k3, .cells (Za Zd L5) 63), (k4, .cells (Za eI L6) 3), (k5, .cells (Za eI L7) 3)] (Value.agg #[vi w6, vi w7]) [] 0
def Zbt (A : Array Value) (L0 : List R_ii) (o1 : Nat) (L2 : List R_iiii) (n3 n4 : Nat) (L5 : List R_ii) (L6 L7 : List Int) (a8 a9 a10 : Int) (O2 : Obj) (w6 w7 : Int) (k0 k1 k2 k3 k4 k5 n : Nat) : Prop := Zz Try.prog 43 A [(k0, .cells [vs k1 0 L0.length L0.length, vs k2 o1 n3 n4, vs k3 0 L5.length L5.length, vs k4 0 L6.length L6.length, vs k5 0 L7.length L7.length, vi a8, vi a9, vi a10] 50), (k1, .cells (Za Zd L0) 76), (k2, .ro O2), (k3, .cells (Za Zd L5) 63), (k4, .cells (Za eI L6) 3), (k5, .cells (Za eI L7) 3)] (Value.agg #[vi w6, vi w7]) [] n 0

theorem ZbI (A : Array Value) (L0 : List R_ii) (o1 : Nat) (L2 : List R_iiii) (n3 n4 : Nat) (L5 : List R_ii) (L6 L7 : List Int) (a8 a9 a10 : Int) (O2 : Obj) (F2 : ZA O2 o1 L2) (w6 w7 : Int) (N : Nat) (h : Zbf L0 L2 n3 n4 L5 L6 L7 a8 a9 a10 N = some (.r0 w6 w7)) (k0 k1 k2 k3 k4 k5 n : Nat) (hA : A = #[vp k0 0]) (hnd : ([k0, k1, k2, k3, k4, k5] : List Nat).Nodup) (hlt : ∀ k ∈ ([k0, k1, k2, k3, k4, k5] : List Nat), k < n) : Zbt A L0 o1 L2 n3 n4 L5 L6 L7 a8 a9 a10 O2 w6 w7 k0 k1 k2 k3 k4 k5 n :=
 Z7 hA (LSpec.callL (show LSpec Try.prog 43 #[vp 0 0] [.cells [vs 1 0 L0.length L0.length, vs 2 o1 n3 n4, vs 3 0 L5.length L5.length, vs 4 0 L6.length L6.length, vs 5 0 L7.length L7.length, vi a8, vi a9, vi a10] 50, .cells (Za Zd L0) 76, .ro O2, .cells (Za Zd L5) 63, .cells (Za eI L6) 3, .cells (Za eI L7) 3] (Value.agg #[vi w6, vi w7]) [some (.cells [vs 1 0 L0.length L0.length, vs 2 o1 n3 n4, vs 3 0 L5.length L5.length, vs 4 0 L6.length L6.length, vs 5 0 L7.length L7.length, vi a8, vi a9, vi a10] 50), some (.cells (Za Zd L0) 76), some (.ro O2), some (.cells (Za Zd L5) 63), some (.cells (Za eI L6) 3), some (.cells (Za eI L7) 3)] from Zim L0 o1 L2 n3 n4 L5 L6 L7 a8 a9 a10 O2 F2 N _ h) [k0, k1, k2, k3, k4, k5] n [] rfl hnd hlt (show 6 ≤ 6 from by decide) (show ∀ j ∈ ([] : List Nat), j < 6 from by decide) (by rfl) ⟨rfl, ⟨(Zi _ _ _), ⟨rfl, ⟨(Zi _ _ _), ⟨(Zi _ _ _), ⟨(Zi _ _ _), trivial⟩⟩⟩⟩⟩⟩ (by rfl) ⟨rfl, ⟨(Zi _ _ _), ⟨rfl, ⟨(Zi _ _ _), ⟨(Zi _ _ _), ⟨(Zi _ _ _), trivial⟩⟩⟩⟩⟩⟩ ⟨.inr rfl, ⟨.inr rfl, ⟨.inr rfl, ⟨.inr rfl, ⟨.inr rfl, ⟨.inr rfl, trivial⟩⟩⟩⟩⟩⟩ rfl rfl rfl (Zb (Zj rfl rfl) (Zb (Zj rfl (Zm _ _ _)) (Zb (Zj rfl rfl) (Zb (Zj rfl (Zm _ _ _)) (Zb (Zj rfl (Zm _ _ _)) (Zb (Zj rfl (Zm _ _ _)) rfl)))))) rfl)

noncomputable def ZiK (L0 : List R_ii) (o1 : Nat) (L2 : List R_iiii) (n3 n4 : Nat) (L5 : List R_ii) (L6 L7 : List Int) (a8 a9 a10 : Int) (O2 : Obj) : ZcU → Value
 | .r0 => vtt
noncomputable def ZhU (L0 : List R_ii) (o1 : Nat) (L2 : List R_iiii) (n3 n4 : Nat) (L5 : List R_ii) (L6 L7 : List Int) (a8 a9 a10 : Int) (O2 : Obj) : ZcU → List (Option AObj)
 | .r0 => [some (.cells [vs 6 0 (L0.take (((L0.length : Int) - (1 : Int))).toNat).length (L0.take (((L0.length : Int) - (1 : Int))).toNat).length, vs 2 o1 n3 n4, vs 3 0 L5.length L5.length, vs 4 0 L6.length L6.length, vs 5 0 L7.length L7.length, vi a8, vi a9, vi a10] 50), none, some (.ro O2), some (.cells (Za Zd L5) 63), some (.cells (Za eI L6) 3), some (.cells (Za eI L7) 3), some (.cells (Za Zd (L0.take (((L0.length : Int) - (1 : Int))).toNat)) 76)]

theorem Zmr (L0 : List R_ii) (o1 : Nat) (L2 : List R_iiii) (n3 n4 : Nat) (L5 : List R_ii) (L6 L7 : List Int) (a8 a9 a10 : Int) (O2 : Obj) (F2 : ZA O2 o1 L2) (N : Nat) : Fx Try.prog Z8 Try.f45 [.cells [vs 1 0 L0.length L0.length, vs 2 o1 n3 n4, vs 3 0 L5.length L5.length, vs 4 0 L6.length L6.length, vs 5 0 L7.length L7.length, vi a8, vi a9, vi a10] 50, .cells (Za Zd L0) 76, .ro O2, .cells (Za Zd L5) 63, .cells (Za eI L6) 3, .cells (Za eI L7) 3] #[vp 0 0] (ZiK L0 o1 L2 n3 n4 L5 L6 L7 a8 a9 a10 O2) (ZhU L0 o1 L2 n3 n4 L5 L6 L7 a8 a9 a10 O2) (Zck L0 L2 n3 n4 L5 L6 L7 a8 a9 a10 N) := by
 unfold Zck
 refine Zo (fun g0 => ?_) (fun g0 => ?_)
 ·
  refine Zo (fun g1 => ?_) (fun g1 => ?_)
  ·
   exact Zn (r := (.r0 : ZcU)) (fu := 4000) (orc := (Zk [] [(0, ((L0.length : Int) - (1 : Int)))] [] [] [(0, .cut (((L0.length : Int) - (1 : Int))).toNat (Za Zd (L0.take (((L0.length : Int) - (1 : Int))).toNat)))])) (live := [0, 1, 2, 3, 4, 5, 6]) (u := vtt) (bl := [some (.cells [vs 6 0 (((L0.length : Int) - (1 : Int))).toNat (((L0.length : Int) - (1 : Int))).toNat, vs 2 o1 n3 n4, vs 3 0 L5.length L5.length, vs 4 0 L6.length L6.length, vs 5 0 L7.length L7.length, vi a8, vi a9, vi a10] 50), none, some (.ro O2), some (.cells (Za Zd L5) 63), some (.cells (Za eI L6) 3), some (.cells (Za eI L7) 3), some (.cells (Za Zd (L0.take (((L0.length : Int) - (1 : Int))).toNat)) 76)]) (ob := [(dP ((((L0.length : Int) - (1 : Int))).toNat ≤ L0.length ∧ 0 < 2 ∧ L0.length * 2 ≤ ((Za Zd L0) : List Value).length ∧ List.take ((((L0.length : Int) - (1 : Int))).toNat * 2) (Za Zd L0) = (Za Zd (L0.take (((L0.length : Int) - (1 : Int))).toNat))), true), (((L0.length : Int) - (1 : Int)) == Int.ofNat (((L0.length : Int) - (1 : Int))).toNat, true), (dS 0, true), ((IntKind.i64.wrap ((L0.length : Int) - (1 : Int))) == ((L0.length : Int) - (1 : Int)), true)]) (by kernel_rfl) (Zc (Zg ⟨ltA, by decide, ZoZ (E := Zd) (L := L0) (by omega) (show _ = _ * 2 from rfl), Zqu (E := Zd) (L := L0) (R := (L0.take (((L0.length : Int) - (1 : Int))).toNat)) (show _ = _ * 2 from rfl) rfl⟩) <| oI <| oR <| Zc (beq_iff_eq.2 ((wrap_i64 ltA).trans (by first | rfl | omega))) Zh) rfl (by decide) (by rfl) rr ⟨⟨rfl, ⟨[], (show ([vs 6 0 (((L0.length : Int) - (1 : Int))).toNat (((L0.length : Int) - (1 : Int))).toNat, vs 2 o1 n3 n4, vs 3 0 L5.length L5.length, vs 4 0 L6.length L6.length, vs 5 0 L7.length L7.length, vi a8, vi a9, vi a10] : List Value) = _ from (Zb (Zx rfl eqA eqA) (Zb rfl (Zb rfl (Zb rfl (Zb rfl (Zb rfl (Zb rfl (Zb rfl rfl)))))))).symm)⟩, by rfl⟩, ⟨rfl, ⟨(Ze (E := Zd) (α := R_ii) _ L5 _), ⟨(Ze (E := eI) (α := Int) _ L6 _), ⟨(Ze (E := eI) (α := Int) _ L7 _), ⟨(Ze (E := Zd) (α := R_ii) _ (L0.take (((L0.length : Int) - (1 : Int))).toNat) _), trivial⟩⟩⟩⟩⟩⟩
  ·
   exact ZM
 ·
  exact ZM

theorem Zk2 (L0 : List R_ii) (o1 : Nat) (L2 : List R_iiii) (n3 n4 : Nat) (L5 : List R_ii) (L6 L7 : List Int) (a8 a9 a10 : Int) (O2 : Obj) (F2 : ZA O2 o1 L2) (N : Nat) (r : ZcU) (h : Zck L0 L2 n3 n4 L5 L6 L7 a8 a9 a10 N = some r) : LSpec Try.prog 45 #[vp 0 0] [.cells [vs 1 0 L0.length L0.length, vs 2 o1 n3 n4, vs 3 0 L5.length L5.length, vs 4 0 L6.length L6.length, vs 5 0 L7.length L7.length, vi a8, vi a9, vi a10] 50, .cells (Za Zd L0) 76, .ro O2, .cells (Za Zd L5) 63, .cells (Za eI L6) 3, .cells (Za eI L7) 3] (ZiK L0 o1 L2 n3 n4 L5 L6 L7 a8 a9 a10 O2 r) (ZhU L0 o1 L2 n3 n4 L5 L6 L7 a8 a9 a10 O2 r) :=
 ZaB Zax Try.func45 (by kernel_rfl) (by kernel_rfl) (fun r => by cases r <;> exact Zaf _ rfl) (Zmr L0 o1 L2 n3 n4 L5 L6 L7 a8 a9 a10 O2 F2 N) h

noncomputable def ZhV (L0 : List R_ii) (o1 : Nat) (L2 : List R_iiii) (n3 n4 : Nat) (L5 : List R_ii) (L6 L7 : List Int) (a8 a9 a10 : Int) (O2 : Obj) (k0 k1 k2 k3 k4 k5 n : Nat) : Zag := .call [(k0, .cells [vs k1 0 L0.length L0.length, vs k2 o1 n3 n4, vs k3 0 L5.length L5.length, vs k4 0 L6.length L6.length, vs k5 0 L7.length L7.length, vi a8, vi a9, vi a10] 50), (k1, .cells (Za Zd L0) 76), (k2, .ro O2), (k3, .cells (Za Zd L5) 63), (k4, .cells (Za eI L6) 3), (k5, .cells (Za eI L7) 3)] (vtt) [(k0, some (.cells [vs n 0 (L0.take (((L0.length : Int) - (1 : Int))).toNat).length (L0.take (((L0.length : Int) - (1 : Int))).toNat).length, vs k2 o1 n3 n4, vs k3 0 L5.length L5.length, vs k4 0 L6.length L6.length, vs k5 0 L7.length L7.length, vi a8, vi a9, vi a10] 50)), (k1, none), (n, some (.cells (Za Zd (L0.take (((L0.length : Int) - (1 : Int))).toNat)) 76))] 1
def Zfv (A : Array Value) (L0 : List R_ii) (o1 : Nat) (L2 : List R_iiii) (n3 n4 : Nat) (L5 : List R_ii) (L6 L7 : List Int) (a8 a9 a10 : Int) (O2 : Obj) (k0 k1 k2 k3 k4 k5 n : Nat) : Prop := Zz Try.prog 45 A [(k0, .cells [vs k1 0 L0.length L0.length, vs k2 o1 n3 n4, vs k3 0 L5.length L5.length, vs k4 0 L6.length L6.length, vs k5 0 L7.length L7.length, vi a8, vi a9, vi a10] 50), (k1, .cells (Za Zd L0) 76), (k2, .ro O2), (k3, .cells (Za Zd L5) 63), (k4, .cells (Za eI L6) 3), (k5, .cells (Za eI L7) 3)] (vtt) [(k0, some (.cells [vs n 0 (L0.take (((L0.length : Int) - (1 : Int))).toNat).length (L0.take (((L0.length : Int) - (1 : Int))).toNat).length, vs k2 o1 n3 n4, vs k3 0 L5.length L5.length, vs k4 0 L6.length L6.length, vs k5 0 L7.length L7.length, vi a8, vi a9, vi a10] 50)), (k1, none), (n, some (.cells (Za Zd (L0.take (((L0.length : Int) - (1 : Int))).toNat)) 76))] n 1

theorem ZhW (A : Array Value) (L0 : List R_ii) (o1 : Nat) (L2 : List R_iiii) (n3 n4 : Nat) (L5 : List R_ii) (L6 L7 : List Int) (a8 a9 a10 : Int) (O2 : Obj) (F2 : ZA O2 o1 L2) (N : Nat) (h : Zck L0 L2 n3 n4 L5 L6 L7 a8 a9 a10 N = some (.r0)) (k0 k1 k2 k3 k4 k5 n : Nat) (hA : A = #[vp k0 0]) (hnd : ([k0, k1, k2, k3, k4, k5] : List Nat).Nodup) (hlt : ∀ k ∈ ([k0, k1, k2, k3, k4, k5] : List Nat), k < n) : Zfv A L0 o1 L2 n3 n4 L5 L6 L7 a8 a9 a10 O2 k0 k1 k2 k3 k4 k5 n :=
 Z7 hA (LSpec.callL (show LSpec Try.prog 45 #[vp 0 0] [.cells [vs 1 0 L0.length L0.length, vs 2 o1 n3 n4, vs 3 0 L5.length L5.length, vs 4 0 L6.length L6.length, vs 5 0 L7.length L7.length, vi a8, vi a9, vi a10] 50, .cells (Za Zd L0) 76, .ro O2, .cells (Za Zd L5) 63, .cells (Za eI L6) 3, .cells (Za eI L7) 3] (vtt) [some (.cells [vs 6 0 (L0.take (((L0.length : Int) - (1 : Int))).toNat).length (L0.take (((L0.length : Int) - (1 : Int))).toNat).length, vs 2 o1 n3 n4, vs 3 0 L5.length L5.length, vs 4 0 L6.length L6.length, vs 5 0 L7.length L7.length, vi a8, vi a9, vi a10] 50), none, some (.ro O2), some (.cells (Za Zd L5) 63), some (.cells (Za eI L6) 3), some (.cells (Za eI L7) 3), some (.cells (Za Zd (L0.take (((L0.length : Int) - (1 : Int))).toNat)) 76)] from Zk2 L0 o1 L2 n3 n4 L5 L6 L7 a8 a9 a10 O2 F2 N _ h) [k0, k1, k2, k3, k4, k5] n [0, 1, 6] rfl hnd hlt (show 6 ≤ 7 from by decide) (show ∀ j ∈ ([0, 1, 6] : List Nat), j < 7 from by decide) (by rfl) ⟨rfl, ⟨(Zi _ _ _), ⟨rfl, ⟨(Zi _ _ _), ⟨(Zi _ _ _), ⟨(Zi _ _ _), trivial⟩⟩⟩⟩⟩⟩ (by rfl) ⟨rfl, ⟨rfl, ⟨(Zi _ _ _), ⟨(Zi _ _ _), ⟨(Zi _ _ _), ⟨(Zi _ _ _), trivial⟩⟩⟩⟩⟩⟩ ⟨.inl (by decide), ⟨.inl (by decide), ⟨.inr rfl, ⟨.inr rfl, ⟨.inr rfl, ⟨.inr rfl, ⟨(by decide), trivial⟩⟩⟩⟩⟩⟩⟩ rfl rfl rfl (Zb (Zj rfl rfl) (Zb (Zj rfl (Zm _ _ _)) (Zb (Zj rfl rfl) (Zb (Zj rfl (Zm _ _ _)) (Zb (Zj rfl (Zm _ _ _)) (Zb (Zj rfl (Zm _ _ _)) rfl)))))) (Zb (Zj rfl (Z0 rfl)) (Zb (Zj rfl rfl) (Zb (Zj rfl (Z0 (Zm _ _ _))) rfl))))

noncomputable def Zh0 (a0 a1 : Int) (L2 : List R_ii) (o3 : Nat) (L4 : List R_iiii) (n5 n6 : Nat) (L7 : List R_ii) (L8 L9 : List Int) (a10 a11 a12 : Int) (O2 : Obj) : Zai → Value
 | .r0 w5 => vtt
 | .r1 w3 w6 w7 w8 => vtt
 | .r2 w0 w6 w7 => vtt
noncomputable def Zg0 (a0 a1 : Int) (L2 : List R_ii) (o3 : Nat) (L4 : List R_iiii) (n5 n6 : Nat) (L7 : List R_ii) (L8 L9 : List Int) (a10 a11 a12 : Int) (O2 : Obj) : Zai → List (Option AObj)
 | .r0 w5 => [some (.cells [vs 6 0 (L2.length + 1) (L2.length + 1), vs 2 o3 n5 n6, vs 7 0 w5.length w5.length, vs 8 0 (L8.length + 1) (L8.length + 1), vs 9 0 (L9.length + 1) (L9.length + 1), vi (if (((L2.length + 1) : Nat) : Int) > a10 then (((L2.length + 1) : Nat) : Int) else a10), vi a11, vi a12] 50), none, some (.ro O2), none, none, none, some (.cells (Za Zd (L2 ++ ([(⟨a0, (-1 : Int)⟩ : R_ii)] : List R_ii))) 76), some (.cells (Za Zd w5) 63), some (.cells (Za eI (L8 ++ [(-1 : Int)])) 3), some (.cells (Za eI (L9 ++ ([a0] : List Int))) 3)]
 | .r1 w3 w6 w7 w8 => [some (.cells [vs 6 0 w3.length w3.length, vs 2 o3 n5 n6, vs 7 0 w6.length w6.length, vs 8 0 w7.length w7.length, vs 5 0 L9.length L9.length, vi w8, vi a11, vi a12] 50), none, some (.ro O2), none, none, some (.cells (Za eI L9) 3), some (.cells (Za Zd w3) 76), some (.cells (Za Zd w6) 63), some (.cells (Za eI w7) 3)]
 | .r2 w0 w6 w7 => [some (.cells [vs 1 0 w0.length w0.length, vs 2 o3 n5 n6, vs 6 0 w6.length w6.length, vs 7 0 w7.length w7.length, vs 5 0 L9.length L9.length, vi a10, vi a11, vi a12] 50), some (.cells (Za Zd w0) 76), some (.ro O2), none, none, some (.cells (Za eI L9) 3), some (.cells (Za Zd w6) 63), some (.cells (Za eI w7) 3)]

end Ev
end Go.Proofs.Ytpgbennpiihajaa
