/- Calls do what the plain functions say. -/
import Derived.Test.YtpgbennpiihajaaKma
namespace Go.Proofs.Ytpgbennpiihajaa
open Go.RowKit
namespace Ev
set_option linter.unusedVariables false
set_option maxRecDepth 100000
noncomputable def Zpy (a0 : Int) : Z4 → Value
 | .r0 => Value.agg #[Value.string ⟨#[]⟩, v0, v0, v0]
 | .r1 => Value.agg #[Value.string ⟨#[99, 111, 110, 115, 116]⟩, vi (1 : Int), vi (6 : Int), v0]
 | .r2 => Value.agg #[Value.string ⟨#[110, 105, 108]⟩, vi (1 : Int), v0, v0]
 | .r3 => Value.agg #[Value.string ⟨#[109, 111, 118, 101]⟩, vi (1 : Int), vi (1 : Int), v0]
 | .r4 => Value.agg #[Value.string ⟨#[97, 100, 100]⟩, vi (1 : Int), vi (1 : Int), vi (1 : Int)]
 | .r5 => Value.agg #[Value.string ⟨#[115, 117, 98]⟩, vi (1 : Int), vi (1 : Int), vi (1 : Int)]
 | .r6 => Value.agg #[Value.string ⟨#[108, 101, 115, 115]⟩, vi (1 : Int), vi (1 : Int), vi (1 : Int)]
 | .r7 => Value.agg #[Value.string ⟨#[101, 113]⟩, vi (1 : Int), vi (1 : Int), vi (1 : Int)]
 | .r8 => Value.agg #[Value.string ⟨#[106, 117, 109, 112]⟩, vi (4 : Int), v0, v0]
 | .r9 => Value.agg #[Value.string ⟨#[106, 117, 109, 112, 122]⟩, vi (1 : Int), vi (4 : Int), v0]
 | .r10 => Value.agg #[Value.string ⟨#[114, 111, 111, 116]⟩, vi (1 : Int), v0, v0]
 | .r11 => Value.agg #[Value.string ⟨#[110, 101, 119]⟩, vi (1 : Int), vi (3 : Int), vi (5 : Int)]
 | .r12 => Value.agg #[Value.string ⟨#[102, 114, 101, 101]⟩, vi (1 : Int), v0, v0]
 | .r13 => Value.agg #[Value.string ⟨#[103, 101, 116]⟩, vi (1 : Int), vi (1 : Int), vi (2 : Int)]
 | .r14 => Value.agg #[Value.string ⟨#[115, 101, 116]⟩, vi (1 : Int), vi (2 : Int), vi (1 : Int)]
 | .r15 => Value.agg #[Value.string ⟨#[98, 101, 103, 105, 110]⟩, v0, v0, v0]
 | .r16 => Value.agg #[Value.string ⟨#[101, 108, 115, 101]⟩, v0, v0, v0]
 | .r17 => Value.agg #[Value.string ⟨#[101, 110, 100]⟩, v0, v0, v0]
 | .r18 => Value.agg #[Value.string ⟨#[114, 101, 116, 114, 121]⟩, v0, v0, v0]
 | .r19 => Value.agg #[Value.string ⟨#[101, 109, 105, 116]⟩, vi (1 : Int), v0, v0]
 | .r20 => Value.agg #[Value.string ⟨#[104, 97, 108, 116]⟩, v0, v0, v0]
noncomputable def Zn6 (a0 : Int) : Z4 → List (Option AObj)
 | .r0 => []
 | .r1 => []
 | .r2 => []
 | .r3 => []
 | .r4 => []
 | .r5 => []
 | .r6 => []
 | .r7 => []
 | .r8 => []
 | .r9 => []
 | .r10 => []
 | .r11 => []
 | .r12 => []
 | .r13 => []
 | .r14 => []
 | .r15 => []
 | .r16 => []
 | .r17 => []
 | .r18 => []
 | .r19 => []
 | .r20 => []

theorem ZrG (a0 : Int) (N : Nat) : Fx Try.prog Zr Try.f47 [] #[vi a0] (Zpy a0) (Zn6 a0) (Za7 a0 N) := by
 unfold Za7
 refine Zm (fun g0 => ?_) (fun g0 => ?_)
 ·
  exact Zk (r := (.r0 : Z4)) (fu := 4000) (orc := (Zi [(0, true)] [] [] [] [])) (live := []) (u := Value.agg #[Value.string ⟨#[]⟩, v0, v0, v0]) (bl := []) (ob := [((decide (a0 < (0 : Int))), true)]) (by kernel_rfl) (oY Zd) rfl (by decide) (by rfl) rr trivial
 ·
  refine Zm (fun g1 => ?_) (fun g1 => ?_)
  ·
   exact Zk (r := (.r0 : Z4)) (fu := 4000) (orc := (Zi [(0, false), (1, true)] [] [] [] [])) (live := []) (u := Value.agg #[Value.string ⟨#[]⟩, v0, v0, v0]) (bl := []) (ob := [((decide (a0 ≥ (21 : Int))), true), ((decide (a0 < (0 : Int))), false)]) (by kernel_rfl) (oY <| oN Zd) rfl (by decide) (by rfl) rr trivial
  ·
   refine Zm (fun g2 => ?_) (fun g2 => ?_)
   ·
    exact Zk (r := (.r0 : Z4)) (fu := 4000) (orc := (Zi [(0, false), (1, false)] [] [(0, 0)] [] [])) (live := []) (u := Value.agg #[Value.string ⟨#[]⟩, v0, v0, v0]) (bl := []) (ob := [(Nat.blt 0 21, true), (a0 == Int.ofNat 0, true), ((decide (a0 ≥ (21 : Int))), false), ((decide (a0 < (0 : Int))), false)]) (by kernel_rfl) (oB <| Za (beq_iff_eq.2 (show _ = ((0 : Nat) : Int) from by omega)) <| oN <| oN Zd) rfl (by decide) (by rfl) rr trivial
   ·
    refine Zm (fun g3 => ?_) (fun g3 => ?_)
    ·
     exact Zk (r := (.r1 : Z4)) (fu := 4000) (orc := (Zi [(0, false), (1, false)] [] [(0, 1)] [] [])) (live := []) (u := Value.agg #[Value.string ⟨#[99, 111, 110, 115, 116]⟩, vi (1 : Int), vi (6 : Int), v0]) (bl := []) (ob := [(Nat.blt 1 21, true), (a0 == Int.ofNat 1, true), ((decide (a0 ≥ (21 : Int))), false), ((decide (a0 < (0 : Int))), false)]) (by kernel_rfl) (oB <| Za (beq_iff_eq.2 (show _ = ((1 : Nat) : Int) from by omega)) <| oN <| oN Zd) rfl (by decide) (by rfl) rr trivial
    ·
     refine Zm (fun g4 => ?_) (fun g4 => ?_)
     ·
      exact Zk (r := (.r2 : Z4)) (fu := 4000) (orc := (Zi [(0, false), (1, false)] [] [(0, 2)] [] [])) (live := []) (u := Value.agg #[Value.string ⟨#[110, 105, 108]⟩, vi (1 : Int), v0, v0]) (bl := []) (ob := [(Nat.blt 2 21, true), (a0 == Int.ofNat 2, true), ((decide (a0 ≥ (21 : Int))), false), ((decide (a0 < (0 : Int))), false)]) (by kernel_rfl) (oB <| Za (beq_iff_eq.2 (show _ = ((2 : Nat) : Int) from by omega)) <| oN <| oN Zd) rfl (by decide) (by rfl) rr trivial
     ·
      refine Zm (fun g5 => ?_) (fun g5 => ?_)
      ·
       exact Zk (r := (.r3 : Z4)) (fu := 4000) (orc := (Zi [(0, false), (1, false)] [] [(0, 3)] [] [])) (live := []) (u := Value.agg #[Value.string ⟨#[109, 111, 118, 101]⟩, vi (1 : Int), vi (1 : Int), v0]) (bl := []) (ob := [(Nat.blt 3 21, true), (a0 == Int.ofNat 3, true), ((decide (a0 ≥ (21 : Int))), false), ((decide (a0 < (0 : Int))), false)]) (by kernel_rfl) (oB <| Za (beq_iff_eq.2 (show _ = ((3 : Nat) : Int) from by omega)) <| oN <| oN Zd) rfl (by decide) (by rfl) rr trivial
      ·
       refine Zm (fun g6 => ?_) (fun g6 => ?_)
       ·
        exact Zk (r := (.r4 : Z4)) (fu := 4000) (orc := (Zi [(0, false), (1, false)] [] [(0, 4)] [] [])) (live := []) (u := Value.agg #[Value.string ⟨#[97, 100, 100]⟩, vi (1 : Int), vi (1 : Int), vi (1 : Int)]) (bl := []) (ob := [(Nat.blt 4 21, true), (a0 == Int.ofNat 4, true), ((decide (a0 ≥ (21 : Int))), false), ((decide (a0 < (0 : Int))), false)]) (by kernel_rfl) (oB <| Za (beq_iff_eq.2 (show _ = ((4 : Nat) : Int) from by omega)) <| oN <| oN Zd) rfl (by decide) (by rfl) rr trivial
       ·
        refine Zm (fun g7 => ?_) (fun g7 => ?_)
        ·
         exact Zk (r := (.r5 : Z4)) (fu := 4000) (orc := (Zi [(0, false), (1, false)] [] [(0, 5)] [] [])) (live := []) (u := Value.agg #[Value.string ⟨#[115, 117, 98]⟩, vi (1 : Int), vi (1 : Int), vi (1 : Int)]) (bl := []) (ob := [(Nat.blt 5 21, true), (a0 == Int.ofNat 5, true), ((decide (a0 ≥ (21 : Int))), false), ((decide (a0 < (0 : Int))), false)]) (by kernel_rfl) (oB <| Za (beq_iff_eq.2 (show _ = ((5 : Nat) : Int) from by omega)) <| oN <| oN Zd) rfl (by decide) (by rfl) rr trivial
        ·
         refine Zm (fun g8 => ?_) (fun g8 => ?_)
         ·
          exact Zk (r := (.r6 : Z4)) (fu := 4000) (orc := (Zi [(0, false), (1, false)] [] [(0, 6)] [] [])) (live := []) (u := Value.agg #[Value.string ⟨#[108, 101, 115, 115]⟩, vi (1 : Int), vi (1 : Int), vi (1 : Int)]) (bl := []) (ob := [(Nat.blt 6 21, true), (a0 == Int.ofNat 6, true), ((decide (a0 ≥ (21 : Int))), false), ((decide (a0 < (0 : Int))), false)]) (by kernel_rfl) (oB <| Za (beq_iff_eq.2 (show _ = ((6 : Nat) : Int) from by omega)) <| oN <| oN Zd) rfl (by decide) (by rfl) rr trivial
         ·
          refine Zm (fun g9 => ?_) (fun g9 => ?_)
          ·
           exact Zk (r := (.r7 : Z4)) (fu := 4000) (orc := (Zi [(0, false), (1, false)] [] [(0, 7)] [] [])) (live := []) (u := Value.agg #[Value.string ⟨#[101, 113]⟩, vi (1 : Int), vi (1 : Int), vi (1 : Int)]) (bl := []) (ob := [(Nat.blt 7 21, true), (a0 == Int.ofNat 7, true), ((decide (a0 ≥ (21 : Int))), false), ((decide (a0 < (0 : Int))), false)]) (by kernel_rfl) (oB <| Za (beq_iff_eq.2 (show _ = ((7 : Nat) : Int) from by omega)) <| oN <| oN Zd) rfl (by decide) (by rfl) rr trivial
          ·
           refine Zm (fun g10 => ?_) (fun g10 => ?_)
           ·
            exact Zk (r := (.r8 : Z4)) (fu := 4000) (orc := (Zi [(0, false), (1, false)] [] [(0, 8)] [] [])) (live := []) (u := Value.agg #[Value.string ⟨#[106, 117, 109, 112]⟩, vi (4 : Int), v0, v0]) (bl := []) (ob := [(Nat.blt 8 21, true), (a0 == Int.ofNat 8, true), ((decide (a0 ≥ (21 : Int))), false), ((decide (a0 < (0 : Int))), false)]) (by kernel_rfl) (oB <| Za (beq_iff_eq.2 (show _ = ((8 : Nat) : Int) from by omega)) <| oN <| oN Zd) rfl (by decide) (by rfl) rr trivial
           ·
            refine Zm (fun g11 => ?_) (fun g11 => ?_)
            ·
             exact Zk (r := (.r9 : Z4)) (fu := 4000) (orc := (Zi [(0, false), (1, false)] [] [(0, 9)] [] [])) (live := []) (u := Value.agg #[Value.string ⟨#[106, 117, 109, 112, 122]⟩, vi (1 : Int), vi (4 : Int), v0]) (bl := []) (ob := [(Nat.blt 9 21, true), (a0 == Int.ofNat 9, true), ((decide (a0 ≥ (21 : Int))), false), ((decide (a0 < (0 : Int))), false)]) (by kernel_rfl) (oB <| Za (beq_iff_eq.2 (show _ = ((9 : Nat) : Int) from by omega)) <| oN <| oN Zd) rfl (by decide) (by rfl) rr trivial
            ·
             refine Zm (fun g12 => ?_) (fun g12 => ?_)
             ·
              exact Zk (r := (.r10 : Z4)) (fu := 4000) (orc := (Zi [(0, false), (1, false)] [] [(0, 10)] [] [])) (live := []) (u := Value.agg #[Value.string ⟨#[114, 111, 111, 116]⟩, vi (1 : Int), v0, v0]) (bl := []) (ob := [(Nat.blt 10 21, true), (a0 == Int.ofNat 10, true), ((decide (a0 ≥ (21 : Int))), false), ((decide (a0 < (0 : Int))), false)]) (by kernel_rfl) (oB <| Za (beq_iff_eq.2 (show _ = ((10 : Nat) : Int) from by omega)) <| oN <| oN Zd) rfl (by decide) (by rfl) rr trivial
             ·
              refine Zm (fun g13 => ?_) (fun g13 => ?_)
              ·
               exact Zk (r := (.r11 : Z4)) (fu := 4000) (orc := (Zi [(0, false), (1, false)] [] [(0, 11)] [] [])) (live := []) (u := Value.agg #[Value.string ⟨#[110, 101, 119]⟩, vi (1 : Int), vi (3 : Int), vi (5 : Int)]) (bl := []) (ob := [(Nat.blt 11 21, true), (a0 == Int.ofNat 11, true), ((decide (a0 ≥ (21 : Int))), false), ((decide (a0 < (0 : Int))), false)]) (by kernel_rfl) (oB <| Za (beq_iff_eq.2 (show _ = ((11 : Nat) : Int) from by omega)) <| oN <| oN Zd) rfl (by decide) (by rfl) rr trivial
              ·
               refine Zm (fun g14 => ?_) (fun g14 => ?_)
               ·
                exact Zk (r := (.r12 : Z4)) (fu := 4000) (orc := (Zi [(0, false), (1, false)] [] [(0, 12)] [] [])) (live := []) (u := Value.agg #[Value.string ⟨#[102, 114, 101, 101]⟩, vi (1 : Int), v0, v0]) (bl := []) (ob := [(Nat.blt 12 21, true), (a0 == Int.ofNat 12, true), ((decide (a0 ≥ (21 : Int))), false), ((decide (a0 < (0 : Int))), false)]) (by kernel_rfl) (oB <| Za (beq_iff_eq.2 (show _ = ((12 : Nat) : Int) from by omega)) <| oN <| oN Zd) rfl (by decide) (by rfl) rr trivial
               ·
                refine Zm (fun g15 => ?_) (fun g15 => ?_)
                ·
                 exact Zk (r := (.r13 : Z4)) (fu := 4000) (orc := (Zi [(0, false), (1, false)] [] [(0, 13)] [] [])) (live := []) (u := Value.agg #[Value.string ⟨#[103, 101, 116]⟩, vi (1 : Int), vi (1 : Int), vi (2 : Int)]) (bl := []) (ob := [(Nat.blt 13 21, true), (a0 == Int.ofNat 13, true), ((decide (a0 ≥ (21 : Int))), false), ((decide (a0 < (0 : Int))), false)]) (by kernel_rfl) (oB <| Za (beq_iff_eq.2 (show _ = ((13 : Nat) : Int) from by omega)) <| oN <| oN Zd) rfl (by decide) (by rfl) rr trivial
                ·
                 refine Zm (fun g16 => ?_) (fun g16 => ?_)
                 ·
                  exact Zk (r := (.r14 : Z4)) (fu := 4000) (orc := (Zi [(0, false), (1, false)] [] [(0, 14)] [] [])) (live := []) (u := Value.agg #[Value.string ⟨#[115, 101, 116]⟩, vi (1 : Int), vi (2 : Int), vi (1 : Int)]) (bl := []) (ob := [(Nat.blt 14 21, true), (a0 == Int.ofNat 14, true), ((decide (a0 ≥ (21 : Int))), false), ((decide (a0 < (0 : Int))), false)]) (by kernel_rfl) (oB <| Za (beq_iff_eq.2 (show _ = ((14 : Nat) : Int) from by omega)) <| oN <| oN Zd) rfl (by decide) (by rfl) rr trivial
                 ·
                  refine Zm (fun g17 => ?_) (fun g17 => ?_)
                  ·
                   exact Zk (r := (.r15 : Z4)) (fu := 4000) (orc := (Zi [(0, false), (1, false)] [] [(0, 15)] [] [])) (live := []) (u := Value.agg #[Value.string ⟨#[98, 101, 103, 105, 110]⟩, v0, v0, v0]) (bl := []) (ob := [(Nat.blt 15 21, true), (a0 == Int.ofNat 15, true), ((decide (a0 ≥ (21 : Int))), false), ((decide (a0 < (0 : Int))), false)]) (by kernel_rfl) (oB <| Za (beq_iff_eq.2 (show _ = ((15 : Nat) : Int) from by omega)) <| oN <| oN Zd) rfl (by decide) (by rfl) rr trivial
                  ·
                   refine Zm (fun g18 => ?_) (fun g18 => ?_)
                   ·
                    exact Zk (r := (.r16 : Z4)) (fu := 4000) (orc := (Zi [(0, false), (1, false)] [] [(0, 16)] [] [])) (live := []) (u := Value.agg #[Value.string ⟨#[101, 108, 115, 101]⟩, v0, v0, v0]) (bl := []) (ob := [(Nat.blt 16 21, true), (a0 == Int.ofNat 16, true), ((decide (a0 ≥ (21 : Int))), false), ((decide (a0 < (0 : Int))), false)]) (by kernel_rfl) (oB <| Za (beq_iff_eq.2 (show _ = ((16 : Nat) : Int) from by omega)) <| oN <| oN Zd) rfl (by decide) (by rfl) rr trivial
                   ·
                    refine Zm (fun g19 => ?_) (fun g19 => ?_)
                    ·
                     exact Zk (r := (.r17 : Z4)) (fu := 4000) (orc := (Zi [(0, false), (1, false)] [] [(0, 17)] [] [])) (live := []) (u := Value.agg #[Value.string ⟨#[101, 110, 100]⟩, v0, v0, v0]) (bl := []) (ob := [(Nat.blt 17 21, true), (a0 == Int.ofNat 17, true), ((decide (a0 ≥ (21 : Int))), false), ((decide (a0 < (0 : Int))), false)]) (by kernel_rfl) (oB <| Za (beq_iff_eq.2 (show _ = ((17 : Nat) : Int) from by omega)) <| oN <| oN Zd) rfl (by decide) (by rfl) rr trivial
                    ·
                     refine Zm (fun g20 => ?_) (fun g20 => ?_)
                     ·
                      exact Zk (r := (.r18 : Z4)) (fu := 4000) (orc := (Zi [(0, false), (1, false)] [] [(0, 18)] [] [])) (live := []) (u := Value.agg #[Value.string ⟨#[114, 101, 116, 114, 121]⟩, v0, v0, v0]) (bl := []) (ob := [(Nat.blt 18 21, true), (a0 == Int.ofNat 18, true), ((decide (a0 ≥ (21 : Int))), false), ((decide (a0 < (0 : Int))), false)]) (by kernel_rfl) (oB <| Za (beq_iff_eq.2 (show _ = ((18 : Nat) : Int) from by omega)) <| oN <| oN Zd) rfl (by decide) (by rfl) rr trivial
                     ·
                      refine Zm (fun g21 => ?_) (fun g21 => ?_)
                      ·
                       exact Zk (r := (.r19 : Z4)) (fu := 4000) (orc := (Zi [(0, false), (1, false)] [] [(0, 19)] [] [])) (live := []) (u := Value.agg #[Value.string ⟨#[101, 109, 105, 116]⟩, vi (1 : Int), v0, v0]) (bl := []) (ob := [(Nat.blt 19 21, true), (a0 == Int.ofNat 19, true), ((decide (a0 ≥ (21 : Int))), false), ((decide (a0 < (0 : Int))), false)]) (by kernel_rfl) (oB <| Za (beq_iff_eq.2 (show _ = ((19 : Nat) : Int) from by omega)) <| oN <| oN Zd) rfl (by decide) (by rfl) rr trivial
                      ·
                       exact Zk (r := (.r20 : Z4)) (fu := 4000) (orc := (Zi [(0, false), (1, false)] [] [(0, 20)] [] [])) (live := []) (u := Value.agg #[Value.string ⟨#[104, 97, 108, 116]⟩, v0, v0, v0]) (bl := []) (ob := [(Nat.blt 20 21, true), (a0 == Int.ofNat 20, true), ((decide (a0 ≥ (21 : Int))), false), ((decide (a0 < (0 : Int))), false)]) (by kernel_rfl) (oB <| Za (beq_iff_eq.2 (show _ = ((20 : Nat) : Int) from by omega)) <| oN <| oN Zd) rfl (by decide) (by rfl) rr trivial

theorem Zap (a0 : Int) (N : Nat) (r : Z4) (h : Za7 a0 N = some r) : LSpec Try.prog 47 #[vi a0] [] (Zpy a0 r) (Zn6 a0 r) :=
 ZaB Zao Try.func47 (by kernel_rfl) (by kernel_rfl) (fun r => by cases r <;> exact ZN _ rfl) (ZrG a0 N) h

noncomputable def ZsX (a0 : Int) (n : Nat) : Zak := .call [] (Value.agg #[Value.string ⟨#[]⟩, v0, v0, v0]) [] 0
def Zn7 (A : Array Value) (a0 : Int) (n : Nat) : Prop := Zw Try.prog 47 A [] (Value.agg #[Value.string ⟨#[]⟩, v0, v0, v0]) [] n 0

theorem ZsY (A : Array Value) (a0 : Int) (N : Nat) (h : Za7 a0 N = some (.r0)) (n : Nat) (hA : A = #[vi a0]) (hnd : ([] : List Nat).Nodup) (hlt : ∀ k ∈ ([] : List Nat), k < n) : Zn7 A a0  n :=
 Z0 hA (LSpec.callL (show LSpec Try.prog 47 #[vi a0] [] (Value.agg #[Value.string ⟨#[]⟩, v0, v0, v0]) [] from Zap a0 N _ h) [] n [] rfl hnd hlt (show 0 ≤ 0 from by decide) (show ∀ j ∈ ([] : List Nat), j < 0 from by decide) (by rfl) trivial (by rfl) trivial trivial rfl rfl rfl rfl rfl)

noncomputable def ZsZ (a0 : Int) (n : Nat) : Zak := .call [] (Value.agg #[Value.string ⟨#[99, 111, 110, 115, 116]⟩, vi (1 : Int), vi (6 : Int), v0]) [] 0
def Zn8 (A : Array Value) (a0 : Int) (n : Nat) : Prop := Zw Try.prog 47 A [] (Value.agg #[Value.string ⟨#[99, 111, 110, 115, 116]⟩, vi (1 : Int), vi (6 : Int), v0]) [] n 0

theorem Zta (A : Array Value) (a0 : Int) (N : Nat) (h : Za7 a0 N = some (.r1)) (n : Nat) (hA : A = #[vi a0]) (hnd : ([] : List Nat).Nodup) (hlt : ∀ k ∈ ([] : List Nat), k < n) : Zn8 A a0  n :=
 Z0 hA (LSpec.callL (show LSpec Try.prog 47 #[vi a0] [] (Value.agg #[Value.string ⟨#[99, 111, 110, 115, 116]⟩, vi (1 : Int), vi (6 : Int), v0]) [] from Zap a0 N _ h) [] n [] rfl hnd hlt (show 0 ≤ 0 from by decide) (show ∀ j ∈ ([] : List Nat), j < 0 from by decide) (by rfl) trivial (by rfl) trivial trivial rfl rfl rfl rfl rfl)

noncomputable def Ztb (a0 : Int) (n : Nat) : Zak := .call [] (Value.agg #[Value.string ⟨#[110, 105, 108]⟩, vi (1 : Int), v0, v0]) [] 0
def Zn9 (A : Array Value) (a0 : Int) (n : Nat) : Prop := Zw Try.prog 47 A [] (Value.agg #[Value.string ⟨#[110, 105, 108]⟩, vi (1 : Int), v0, v0]) [] n 0

theorem Ztc (A : Array Value) (a0 : Int) (N : Nat) (h : Za7 a0 N = some (.r2)) (n : Nat) (hA : A = #[vi a0]) (hnd : ([] : List Nat).Nodup) (hlt : ∀ k ∈ ([] : List Nat), k < n) : Zn9 A a0  n :=
 Z0 hA (LSpec.callL (show LSpec Try.prog 47 #[vi a0] [] (Value.agg #[Value.string ⟨#[110, 105, 108]⟩, vi (1 : Int), v0, v0]) [] from Zap a0 N _ h) [] n [] rfl hnd hlt (show 0 ≤ 0 from by decide) (show ∀ j ∈ ([] : List Nat), j < 0 from by decide) (by rfl) trivial (by rfl) trivial trivial rfl rfl rfl rfl rfl)

noncomputable def Ztd (a0 : Int) (n : Nat) : Zak := .call [] (Value.agg #[Value.string ⟨#[109, 111, 118, 101]⟩, vi (1 : Int), vi (1 : Int), v0]) [] 0
def ZnA (A : Array Value) (a0 : Int) (n : Nat) : Prop := Zw Try.prog 47 A [] (Value.agg #[Value.string ⟨#[109, 111, 118, 101]⟩, vi (1 : Int), vi (1 : Int), v0]) [] n 0

theorem Zte (A : Array Value) (a0 : Int) (N : Nat) (h : Za7 a0 N = some (.r3)) (n : Nat) (hA : A = #[vi a0]) (hnd : ([] : List Nat).Nodup) (hlt : ∀ k ∈ ([] : List Nat), k < n) : ZnA A a0  n :=
 Z0 hA (LSpec.callL (show LSpec Try.prog 47 #[vi a0] [] (Value.agg #[Value.string ⟨#[109, 111, 118, 101]⟩, vi (1 : Int), vi (1 : Int), v0]) [] from Zap a0 N _ h) [] n [] rfl hnd hlt (show 0 ≤ 0 from by decide) (show ∀ j ∈ ([] : List Nat), j < 0 from by decide) (by rfl) trivial (by rfl) trivial trivial rfl rfl rfl rfl rfl)

noncomputable def Ztf (a0 : Int) (n : Nat) : Zak := .call [] (Value.agg #[Value.string ⟨#[97, 100, 100]⟩, vi (1 : Int), vi (1 : Int), vi (1 : Int)]) [] 0
def ZnB (A : Array Value) (a0 : Int) (n : Nat) : Prop := Zw Try.prog 47 A [] (Value.agg #[Value.string ⟨#[97, 100, 100]⟩, vi (1 : Int), vi (1 : Int), vi (1 : Int)]) [] n 0

theorem Ztg (A : Array Value) (a0 : Int) (N : Nat) (h : Za7 a0 N = some (.r4)) (n : Nat) (hA : A = #[vi a0]) (hnd : ([] : List Nat).Nodup) (hlt : ∀ k ∈ ([] : List Nat), k < n) : ZnB A a0  n :=
 Z0 hA (LSpec.callL (show LSpec Try.prog 47 #[vi a0] [] (Value.agg #[Value.string ⟨#[97, 100, 100]⟩, vi (1 : Int), vi (1 : Int), vi (1 : Int)]) [] from Zap a0 N _ h) [] n [] rfl hnd hlt (show 0 ≤ 0 from by decide) (show ∀ j ∈ ([] : List Nat), j < 0 from by decide) (by rfl) trivial (by rfl) trivial trivial rfl rfl rfl rfl rfl)

noncomputable def Zth (a0 : Int) (n : Nat) : Zak := .call [] (Value.agg #[Value.string ⟨#[115, 117, 98]⟩, vi (1 : Int), vi (1 : Int), vi (1 : Int)]) [] 0
def ZnC (A : Array Value) (a0 : Int) (n : Nat) : Prop := Zw Try.prog 47 A [] (Value.agg #[Value.string ⟨#[115, 117, 98]⟩, vi (1 : Int), vi (1 : Int), vi (1 : Int)]) [] n 0

theorem Zti (A : Array Value) (a0 : Int) (N : Nat) (h : Za7 a0 N = some (.r5)) (n : Nat) (hA : A = #[vi a0]) (hnd : ([] : List Nat).Nodup) (hlt : ∀ k ∈ ([] : List Nat), k < n) : ZnC A a0  n :=
 Z0 hA (LSpec.callL (show LSpec Try.prog 47 #[vi a0] [] (Value.agg #[Value.string ⟨#[115, 117, 98]⟩, vi (1 : Int), vi (1 : Int), vi (1 : Int)]) [] from Zap a0 N _ h) [] n [] rfl hnd hlt (show 0 ≤ 0 from by decide) (show ∀ j ∈ ([] : List Nat), j < 0 from by decide) (by rfl) trivial (by rfl) trivial trivial rfl rfl rfl rfl rfl)

noncomputable def Ztj (a0 : Int) (n : Nat) : Zak := .call [] (Value.agg #[Value.string ⟨#[108, 101, 115, 115]⟩, vi (1 : Int), vi (1 : Int), vi (1 : Int)]) [] 0
def ZnD (A : Array Value) (a0 : Int) (n : Nat) : Prop := Zw Try.prog 47 A [] (Value.agg #[Value.string ⟨#[108, 101, 115, 115]⟩, vi (1 : Int), vi (1 : Int), vi (1 : Int)]) [] n 0

theorem Ztk (A : Array Value) (a0 : Int) (N : Nat) (h : Za7 a0 N = some (.r6)) (n : Nat) (hA : A = #[vi a0]) (hnd : ([] : List Nat).Nodup) (hlt : ∀ k ∈ ([] : List Nat), k < n) : ZnD A a0  n :=
 Z0 hA (LSpec.callL (show LSpec Try.prog 47 #[vi a0] [] (Value.agg #[Value.string ⟨#[108, 101, 115, 115]⟩, vi (1 : Int), vi (1 : Int), vi (1 : Int)]) [] from Zap a0 N _ h) [] n [] rfl hnd hlt (show 0 ≤ 0 from by decide) (show ∀ j ∈ ([] : List Nat), j < 0 from by decide) (by rfl) trivial (by rfl) trivial trivial rfl rfl rfl rfl rfl)

noncomputable def Ztl (a0 : Int) (n : Nat) : Zak := .call [] (Value.agg #[Value.string ⟨#[101, 113]⟩, vi (1 : Int), vi (1 : Int), vi (1 : Int)]) [] 0
def ZnE (A : Array Value) (a0 : Int) (n : Nat) : Prop := Zw Try.prog 47 A [] (Value.agg #[Value.string ⟨#[101, 113]⟩, vi (1 : Int), vi (1 : Int), vi (1 : Int)]) [] n 0

theorem Ztm (A : Array Value) (a0 : Int) (N : Nat) (h : Za7 a0 N = some (.r7)) (n : Nat) (hA : A = #[vi a0]) (hnd : ([] : List Nat).Nodup) (hlt : ∀ k ∈ ([] : List Nat), k < n) : ZnE A a0  n :=
 Z0 hA (LSpec.callL (show LSpec Try.prog 47 #[vi a0] [] (Value.agg #[Value.string ⟨#[101, 113]⟩, vi (1 : Int), vi (1 : Int), vi (1 : Int)]) [] from Zap a0 N _ h) [] n [] rfl hnd hlt (show 0 ≤ 0 from by decide) (show ∀ j ∈ ([] : List Nat), j < 0 from by decide) (by rfl) trivial (by rfl) trivial trivial rfl rfl rfl rfl rfl)

noncomputable def Ztn (a0 : Int) (n : Nat) : Zak := .call [] (Value.agg #[Value.string ⟨#[106, 117, 109, 112]⟩, vi (4 : Int), v0, v0]) [] 0
def ZnF (A : Array Value) (a0 : Int) (n : Nat) : Prop := Zw Try.prog 47 A [] (Value.agg #[Value.string ⟨#[106, 117, 109, 112]⟩, vi (4 : Int), v0, v0]) [] n 0

theorem Zto (A : Array Value) (a0 : Int) (N : Nat) (h : Za7 a0 N = some (.r8)) (n : Nat) (hA : A = #[vi a0]) (hnd : ([] : List Nat).Nodup) (hlt : ∀ k ∈ ([] : List Nat), k < n) : ZnF A a0  n :=
 Z0 hA (LSpec.callL (show LSpec Try.prog 47 #[vi a0] [] (Value.agg #[Value.string ⟨#[106, 117, 109, 112]⟩, vi (4 : Int), v0, v0]) [] from Zap a0 N _ h) [] n [] rfl hnd hlt (show 0 ≤ 0 from by decide) (show ∀ j ∈ ([] : List Nat), j < 0 from by decide) (by rfl) trivial (by rfl) trivial trivial rfl rfl rfl rfl rfl)

noncomputable def Ztp (a0 : Int) (n : Nat) : Zak := .call [] (Value.agg #[Value.string ⟨#[106, 117, 109, 112, 122]⟩, vi (1 : Int), vi (4 : Int), v0]) [] 0
def ZnG (A : Array Value) (a0 : Int) (n : Nat) : Prop := Zw Try.prog 47 A [] (Value.agg #[Value.string ⟨#[106, 117, 109, 112, 122]⟩, vi (1 : Int), vi (4 : Int), v0]) [] n 0

theorem Ztq (A : Array Value) (a0 : Int) (N : Nat) (h : Za7 a0 N = some (.r9)) (n : Nat) (hA : A = #[vi a0]) (hnd : ([] : List Nat).Nodup) (hlt : ∀ k ∈ ([] : List Nat), k < n) : ZnG A a0  n :=
 Z0 hA (LSpec.callL (show LSpec Try.prog 47 #[vi a0] [] (Value.agg #[Value.string ⟨#[106, 117, 109, 112, 122]⟩, vi (1 : Int), vi (4 : Int), v0]) [] from Zap a0 N _ h) [] n [] rfl hnd hlt (show 0 ≤ 0 from by decide) (show ∀ j ∈ ([] : List Nat), j < 0 from by decide) (by rfl) trivial (by rfl) trivial trivial rfl rfl rfl rfl rfl)

noncomputable def ZrH (a0 : Int) (n : Nat) : Zak := .call [] (Value.agg #[Value.string ⟨#[114, 111, 111, 116]⟩, vi (1 : Int), v0, v0]) [] 0
def Zmb (A : Array Value) (a0 : Int) (n : Nat) : Prop := Zw Try.prog 47 A [] (Value.agg #[Value.string ⟨#[114, 111, 111, 116]⟩, vi (1 : Int), v0, v0]) [] n 0

theorem ZrI (A : Array Value) (a0 : Int) (N : Nat) (h : Za7 a0 N = some (.r10)) (n : Nat) (hA : A = #[vi a0]) (hnd : ([] : List Nat).Nodup) (hlt : ∀ k ∈ ([] : List Nat), k < n) : Zmb A a0  n :=
 Z0 hA (LSpec.callL (show LSpec Try.prog 47 #[vi a0] [] (Value.agg #[Value.string ⟨#[114, 111, 111, 116]⟩, vi (1 : Int), v0, v0]) [] from Zap a0 N _ h) [] n [] rfl hnd hlt (show 0 ≤ 0 from by decide) (show ∀ j ∈ ([] : List Nat), j < 0 from by decide) (by rfl) trivial (by rfl) trivial trivial rfl rfl rfl rfl rfl)

noncomputable def ZrJ (a0 : Int) (n : Nat) : Zak := .call [] (Value.agg #[Value.string ⟨#[110, 101, 119]⟩, vi (1 : Int), vi (3 : Int), vi (5 : Int)]) [] 0
def Zmc (A : Array Value) (a0 : Int) (n : Nat) : Prop := Zw Try.prog 47 A [] (Value.agg #[Value.string ⟨#[110, 101, 119]⟩, vi (1 : Int), vi (3 : Int), vi (5 : Int)]) [] n 0

theorem ZrK (A : Array Value) (a0 : Int) (N : Nat) (h : Za7 a0 N = some (.r11)) (n : Nat) (hA : A = #[vi a0]) (hnd : ([] : List Nat).Nodup) (hlt : ∀ k ∈ ([] : List Nat), k < n) : Zmc A a0  n :=
 Z0 hA (LSpec.callL (show LSpec Try.prog 47 #[vi a0] [] (Value.agg #[Value.string ⟨#[110, 101, 119]⟩, vi (1 : Int), vi (3 : Int), vi (5 : Int)]) [] from Zap a0 N _ h) [] n [] rfl hnd hlt (show 0 ≤ 0 from by decide) (show ∀ j ∈ ([] : List Nat), j < 0 from by decide) (by rfl) trivial (by rfl) trivial trivial rfl rfl rfl rfl rfl)

noncomputable def ZrL (a0 : Int) (n : Nat) : Zak := .call [] (Value.agg #[Value.string ⟨#[102, 114, 101, 101]⟩, vi (1 : Int), v0, v0]) [] 0
def Zmd (A : Array Value) (a0 : Int) (n : Nat) : Prop := Zw Try.prog 47 A [] (Value.agg #[Value.string ⟨#[102, 114, 101, 101]⟩, vi (1 : Int), v0, v0]) [] n 0

theorem ZrM (A : Array Value) (a0 : Int) (N : Nat) (h : Za7 a0 N = some (.r12)) (n : Nat) (hA : A = #[vi a0]) (hnd : ([] : List Nat).Nodup) (hlt : ∀ k ∈ ([] : List Nat), k < n) : Zmd A a0  n :=
 Z0 hA (LSpec.callL (show LSpec Try.prog 47 #[vi a0] [] (Value.agg #[Value.string ⟨#[102, 114, 101, 101]⟩, vi (1 : Int), v0, v0]) [] from Zap a0 N _ h) [] n [] rfl hnd hlt (show 0 ≤ 0 from by decide) (show ∀ j ∈ ([] : List Nat), j < 0 from by decide) (by rfl) trivial (by rfl) trivial trivial rfl rfl rfl rfl rfl)

noncomputable def ZrN (a0 : Int) (n : Nat) : Zak := .call [] (Value.agg #[Value.string ⟨#[103, 101, 116]⟩, vi (1 : Int), vi (1 : Int), vi (2 : Int)]) [] 0
def Zme (A : Array Value) (a0 : Int) (n : Nat) : Prop := Zw Try.prog 47 A [] (Value.agg #[Value.string ⟨#[103, 101, 116]⟩, vi (1 : Int), vi (1 : Int), vi (2 : Int)]) [] n 0

theorem ZrO (A : Array Value) (a0 : Int) (N : Nat) (h : Za7 a0 N = some (.r13)) (n : Nat) (hA : A = #[vi a0]) (hnd : ([] : List Nat).Nodup) (hlt : ∀ k ∈ ([] : List Nat), k < n) : Zme A a0  n :=
 Z0 hA (LSpec.callL (show LSpec Try.prog 47 #[vi a0] [] (Value.agg #[Value.string ⟨#[103, 101, 116]⟩, vi (1 : Int), vi (1 : Int), vi (2 : Int)]) [] from Zap a0 N _ h) [] n [] rfl hnd hlt (show 0 ≤ 0 from by decide) (show ∀ j ∈ ([] : List Nat), j < 0 from by decide) (by rfl) trivial (by rfl) trivial trivial rfl rfl rfl rfl rfl)

noncomputable def ZrP (a0 : Int) (n : Nat) : Zak := .call [] (Value.agg #[Value.string ⟨#[115, 101, 116]⟩, vi (1 : Int), vi (2 : Int), vi (1 : Int)]) [] 0
def Zmf (A : Array Value) (a0 : Int) (n : Nat) : Prop := Zw Try.prog 47 A [] (Value.agg #[Value.string ⟨#[115, 101, 116]⟩, vi (1 : Int), vi (2 : Int), vi (1 : Int)]) [] n 0

theorem ZrQ (A : Array Value) (a0 : Int) (N : Nat) (h : Za7 a0 N = some (.r14)) (n : Nat) (hA : A = #[vi a0]) (hnd : ([] : List Nat).Nodup) (hlt : ∀ k ∈ ([] : List Nat), k < n) : Zmf A a0  n :=
 Z0 hA (LSpec.callL (show LSpec Try.prog 47 #[vi a0] [] (Value.agg #[Value.string ⟨#[115, 101, 116]⟩, vi (1 : Int), vi (2 : Int), vi (1 : Int)]) [] from Zap a0 N _ h) [] n [] rfl hnd hlt (show 0 ≤ 0 from by decide) (show ∀ j ∈ ([] : List Nat), j < 0 from by decide) (by rfl) trivial (by rfl) trivial trivial rfl rfl rfl rfl rfl)

noncomputable def ZrR (a0 : Int) (n : Nat) : Zak := .call [] (Value.agg #[Value.string ⟨#[98, 101, 103, 105, 110]⟩, v0, v0, v0]) [] 0
def Zmg (A : Array Value) (a0 : Int) (n : Nat) : Prop := Zw Try.prog 47 A [] (Value.agg #[Value.string ⟨#[98, 101, 103, 105, 110]⟩, v0, v0, v0]) [] n 0

theorem ZrS (A : Array Value) (a0 : Int) (N : Nat) (h : Za7 a0 N = some (.r15)) (n : Nat) (hA : A = #[vi a0]) (hnd : ([] : List Nat).Nodup) (hlt : ∀ k ∈ ([] : List Nat), k < n) : Zmg A a0  n :=
 Z0 hA (LSpec.callL (show LSpec Try.prog 47 #[vi a0] [] (Value.agg #[Value.string ⟨#[98, 101, 103, 105, 110]⟩, v0, v0, v0]) [] from Zap a0 N _ h) [] n [] rfl hnd hlt (show 0 ≤ 0 from by decide) (show ∀ j ∈ ([] : List Nat), j < 0 from by decide) (by rfl) trivial (by rfl) trivial trivial rfl rfl rfl rfl rfl)

noncomputable def ZrT (a0 : Int) (n : Nat) : Zak := .call [] (Value.agg #[Value.string ⟨#[101, 108, 115, 101]⟩, v0, v0, v0]) [] 0
def Zmh (A : Array Value) (a0 : Int) (n : Nat) : Prop := Zw Try.prog 47 A [] (Value.agg #[Value.string ⟨#[101, 108, 115, 101]⟩, v0, v0, v0]) [] n 0

theorem ZrU (A : Array Value) (a0 : Int) (N : Nat) (h : Za7 a0 N = some (.r16)) (n : Nat) (hA : A = #[vi a0]) (hnd : ([] : List Nat).Nodup) (hlt : ∀ k ∈ ([] : List Nat), k < n) : Zmh A a0  n :=
 Z0 hA (LSpec.callL (show LSpec Try.prog 47 #[vi a0] [] (Value.agg #[Value.string ⟨#[101, 108, 115, 101]⟩, v0, v0, v0]) [] from Zap a0 N _ h) [] n [] rfl hnd hlt (show 0 ≤ 0 from by decide) (show ∀ j ∈ ([] : List Nat), j < 0 from by decide) (by rfl) trivial (by rfl) trivial trivial rfl rfl rfl rfl rfl)

noncomputable def ZrV (a0 : Int) (n : Nat) : Zak := .call [] (Value.agg #[Value.string ⟨#[101, 110, 100]⟩, v0, v0, v0]) [] 0
def Zmi (A : Array Value) (a0 : Int) (n : Nat) : Prop := Zw Try.prog 47 A [] (Value.agg #[Value.string ⟨#[101, 110, 100]⟩, v0, v0, v0]) [] n 0

theorem ZrW (A : Array Value) (a0 : Int) (N : Nat) (h : Za7 a0 N = some (.r17)) (n : Nat) (hA : A = #[vi a0]) (hnd : ([] : List Nat).Nodup) (hlt : ∀ k ∈ ([] : List Nat), k < n) : Zmi A a0  n :=
 Z0 hA (LSpec.callL (show LSpec Try.prog 47 #[vi a0] [] (Value.agg #[Value.string ⟨#[101, 110, 100]⟩, v0, v0, v0]) [] from Zap a0 N _ h) [] n [] rfl hnd hlt (show 0 ≤ 0 from by decide) (show ∀ j ∈ ([] : List Nat), j < 0 from by decide) (by rfl) trivial (by rfl) trivial trivial rfl rfl rfl rfl rfl)

noncomputable def ZrX (a0 : Int) (n : Nat) : Zak := .call [] (Value.agg #[Value.string ⟨#[114, 101, 116, 114, 121]⟩, v0, v0, v0]) [] 0
def Zmj (A : Array Value) (a0 : Int) (n : Nat) : Prop := Zw Try.prog 47 A [] (Value.agg #[Value.string ⟨#[114, 101, 116, 114, 121]⟩, v0, v0, v0]) [] n 0

theorem ZrY (A : Array Value) (a0 : Int) (N : Nat) (h : Za7 a0 N = some (.r18)) (n : Nat) (hA : A = #[vi a0]) (hnd : ([] : List Nat).Nodup) (hlt : ∀ k ∈ ([] : List Nat), k < n) : Zmj A a0  n :=
 Z0 hA (LSpec.callL (show LSpec Try.prog 47 #[vi a0] [] (Value.agg #[Value.string ⟨#[114, 101, 116, 114, 121]⟩, v0, v0, v0]) [] from Zap a0 N _ h) [] n [] rfl hnd hlt (show 0 ≤ 0 from by decide) (show ∀ j ∈ ([] : List Nat), j < 0 from by decide) (by rfl) trivial (by rfl) trivial trivial rfl rfl rfl rfl rfl)

noncomputable def ZrZ (a0 : Int) (n : Nat) : Zak := .call [] (Value.agg #[Value.string ⟨#[101, 109, 105, 116]⟩, vi (1 : Int), v0, v0]) [] 0
def Zmk (A : Array Value) (a0 : Int) (n : Nat) : Prop := Zw Try.prog 47 A [] (Value.agg #[Value.string ⟨#[101, 109, 105, 116]⟩, vi (1 : Int), v0, v0]) [] n 0

theorem Zsa (A : Array Value) (a0 : Int) (N : Nat) (h : Za7 a0 N = some (.r19)) (n : Nat) (hA : A = #[vi a0]) (hnd : ([] : List Nat).Nodup) (hlt : ∀ k ∈ ([] : List Nat), k < n) : Zmk A a0  n :=
 Z0 hA (LSpec.callL (show LSpec Try.prog 47 #[vi a0] [] (Value.agg #[Value.string ⟨#[101, 109, 105, 116]⟩, vi (1 : Int), v0, v0]) [] from Zap a0 N _ h) [] n [] rfl hnd hlt (show 0 ≤ 0 from by decide) (show ∀ j ∈ ([] : List Nat), j < 0 from by decide) (by rfl) trivial (by rfl) trivial trivial rfl rfl rfl rfl rfl)

noncomputable def Zsb (a0 : Int) (n : Nat) : Zak := .call [] (Value.agg #[Value.string ⟨#[104, 97, 108, 116]⟩, v0, v0, v0]) [] 0
def Zml (A : Array Value) (a0 : Int) (n : Nat) : Prop := Zw Try.prog 47 A [] (Value.agg #[Value.string ⟨#[104, 97, 108, 116]⟩, v0, v0, v0]) [] n 0

theorem Zsc (A : Array Value) (a0 : Int) (N : Nat) (h : Za7 a0 N = some (.r20)) (n : Nat) (hA : A = #[vi a0]) (hnd : ([] : List Nat).Nodup) (hlt : ∀ k ∈ ([] : List Nat), k < n) : Zml A a0  n :=
 Z0 hA (LSpec.callL (show LSpec Try.prog 47 #[vi a0] [] (Value.agg #[Value.string ⟨#[104, 97, 108, 116]⟩, v0, v0, v0]) [] from Zap a0 N _ h) [] n [] rfl hnd hlt (show 0 ≤ 0 from by decide) (show ∀ j ∈ ([] : List Nat), j < 0 from by decide) (by rfl) trivial (by rfl) trivial trivial rfl rfl rfl rfl rfl)

noncomputable def ZiD (a0 a1 a2 : Int) : Zv → Value
 | .r0 w0 => Value.bool w0
noncomputable def Zin (a0 a1 a2 : Int) : Zv → List (Option AObj)
 | .r0 w0 => []

theorem ZmG (a0 a1 a2 : Int) (N : Nat) : Fx Try.prog Zr Try.f48 [] #[vi a0, vi a1, vi a2] (ZiD a0 a1 a2) (Zin a0 a1 a2) (ZI a0 a1 a2 N) := by
 unfold ZI
 refine Zm (fun g0 => ?_) (fun g0 => ?_)
 ·
  refine Zm (fun g1 => ?_) (fun g1 => ?_)
  ·
   refine Zm (fun g2 => ?_) (fun g2 => ?_)
   ·
    exact Zk (r := (.r0 (true) : Zv)) (fu := 4000) (orc := (Zi [(0, true), (1, true), (2, true)] [] [] [] [])) (live := []) (u := vT) (bl := []) (ob := [((decide (a1 ≤ (7 : Int))), true), ((decide ((0 : Int) ≤ a1)), true), ((a0 == (1 : Int)), true)]) (by kernel_rfl) (oY <| oY <| oT Zd) rfl (by decide) (by rfl) rr trivial
   ·
    exact Zk (r := (.r0 (false) : Zv)) (fu := 4000) (orc := (Zi [(0, true), (1, true), (2, false)] [] [] [] [])) (live := []) (u := vf) (bl := []) (ob := [((decide (a1 ≤ (7 : Int))), false), ((decide ((0 : Int) ≤ a1)), true), ((a0 == (1 : Int)), true)]) (by kernel_rfl) (oN <| oY <| oT Zd) rfl (by decide) (by rfl) rr trivial
  ·
   exact Zk (r := (.r0 (false) : Zv)) (fu := 4000) (orc := (Zi [(0, true), (1, false)] [] [] [] [])) (live := []) (u := vf) (bl := []) (ob := [((decide ((0 : Int) ≤ a1)), false), ((a0 == (1 : Int)), true)]) (by kernel_rfl) (oN <| oT Zd) rfl (by decide) (by rfl) rr trivial
 ·
  refine Zm (fun g1 => ?_) (fun g1 => ?_)
  ·
   refine Zm (fun g2 => ?_) (fun g2 => ?_)
   ·
    refine Zm (fun g3 => ?_) (fun g3 => ?_)
    ·
     exact Zk (r := (.r0 (true) : Zv)) (fu := 4000) (orc := (Zi [(0, false), (1, true), (2, true), (3, true)] [] [] [] [])) (live := []) (u := vT) (bl := []) (ob := [((decide (a1 ≤ (15 : Int))), true), ((decide ((0 : Int) ≤ a1)), true), ((a0 == (2 : Int)), true), ((a0 == (1 : Int)), false)]) (by kernel_rfl) (oY <| oY <| oT <| oF Zd) rfl (by decide) (by rfl) rr trivial
    ·
     exact Zk (r := (.r0 (false) : Zv)) (fu := 4000) (orc := (Zi [(0, false), (1, true), (2, true), (3, false)] [] [] [] [])) (live := []) (u := vf) (bl := []) (ob := [((decide (a1 ≤ (15 : Int))), false), ((decide ((0 : Int) ≤ a1)), true), ((a0 == (2 : Int)), true), ((a0 == (1 : Int)), false)]) (by kernel_rfl) (oN <| oY <| oT <| oF Zd) rfl (by decide) (by rfl) rr trivial
   ·
    exact Zk (r := (.r0 (false) : Zv)) (fu := 4000) (orc := (Zi [(0, false), (1, true), (2, false)] [] [] [] [])) (live := []) (u := vf) (bl := []) (ob := [((decide ((0 : Int) ≤ a1)), false), ((a0 == (2 : Int)), true), ((a0 == (1 : Int)), false)]) (by kernel_rfl) (oN <| oT <| oF Zd) rfl (by decide) (by rfl) rr trivial
  ·
   refine Zm (fun g2 => ?_) (fun g2 => ?_)
   ·
    refine Zm (fun g3 => ?_) (fun g3 => ?_)
    ·
     refine Zm (fun g4 => ?_) (fun g4 => ?_)
     ·
      exact Zk (r := (.r0 (true) : Zv)) (fu := 4000) (orc := (Zi [(0, false), (1, false), (2, true), (3, true), (4, true)] [] [] [] [])) (live := []) (u := vT) (bl := []) (ob := [((decide (a1 ≤ (16 : Int))), true), ((decide ((1 : Int) ≤ a1)), true), ((a0 == (3 : Int)), true), ((a0 == (2 : Int)), false), ((a0 == (1 : Int)), false)]) (by kernel_rfl) (oY <| oY <| oT <| oF <| oF Zd) rfl (by decide) (by rfl) rr trivial
     ·
      exact Zk (r := (.r0 (false) : Zv)) (fu := 4000) (orc := (Zi [(0, false), (1, false), (2, true), (3, true), (4, false)] [] [] [] [])) (live := []) (u := vf) (bl := []) (ob := [((decide (a1 ≤ (16 : Int))), false), ((decide ((1 : Int) ≤ a1)), true), ((a0 == (3 : Int)), true), ((a0 == (2 : Int)), false), ((a0 == (1 : Int)), false)]) (by kernel_rfl) (oN <| oY <| oT <| oF <| oF Zd) rfl (by decide) (by rfl) rr trivial
    ·
     exact Zk (r := (.r0 (false) : Zv)) (fu := 4000) (orc := (Zi [(0, false), (1, false), (2, true), (3, false)] [] [] [] [])) (live := []) (u := vf) (bl := []) (ob := [((decide ((1 : Int) ≤ a1)), false), ((a0 == (3 : Int)), true), ((a0 == (2 : Int)), false), ((a0 == (1 : Int)), false)]) (by kernel_rfl) (oN <| oT <| oF <| oF Zd) rfl (by decide) (by rfl) rr trivial
   ·
    refine Zm (fun g3 => ?_) (fun g3 => ?_)
    ·
     refine Zm (fun g4 => ?_) (fun g4 => ?_)
     ·
      refine Zm (fun g5 => ?_) (fun g5 => ?_)
      ·
       exact Zk (r := (.r0 (true) : Zv)) (fu := 4000) (orc := (Zi [(0, false), (1, false), (2, false), (3, true), (4, true), (5, true)] [] [] [] [])) (live := []) (u := vT) (bl := []) (ob := [((decide (a1 ≤ (512 : Int))), true), ((decide ((0 : Int) ≤ a1)), true), ((a0 == (4 : Int)), true), ((a0 == (3 : Int)), false), ((a0 == (2 : Int)), false), ((a0 == (1 : Int)), false)]) (by kernel_rfl) (oY <| oY <| oT <| oF <| oF <| oF Zd) rfl (by decide) (by rfl) rr trivial
      ·
       exact Zk (r := (.r0 (false) : Zv)) (fu := 4000) (orc := (Zi [(0, false), (1, false), (2, false), (3, true), (4, true), (5, false)] [] [] [] [])) (live := []) (u := vf) (bl := []) (ob := [((decide (a1 ≤ (512 : Int))), false), ((decide ((0 : Int) ≤ a1)), true), ((a0 == (4 : Int)), true), ((a0 == (3 : Int)), false), ((a0 == (2 : Int)), false), ((a0 == (1 : Int)), false)]) (by kernel_rfl) (oN <| oY <| oT <| oF <| oF <| oF Zd) rfl (by decide) (by rfl) rr trivial
     ·
      exact Zk (r := (.r0 (false) : Zv)) (fu := 4000) (orc := (Zi [(0, false), (1, false), (2, false), (3, true), (4, false)] [] [] [] [])) (live := []) (u := vf) (bl := []) (ob := [((decide ((0 : Int) ≤ a1)), false), ((a0 == (4 : Int)), true), ((a0 == (3 : Int)), false), ((a0 == (2 : Int)), false), ((a0 == (1 : Int)), false)]) (by kernel_rfl) (oN <| oT <| oF <| oF <| oF Zd) rfl (by decide) (by rfl) rr trivial
    ·
     refine Zm (fun g4 => ?_) (fun g4 => ?_)
     ·
      refine Zm (fun g5 => ?_) (fun g5 => ?_)
      ·
       refine Zm (fun g6 => ?_) (fun g6 => ?_)
       ·
        refine Zm (fun g7 => ?_) (fun g7 => ?_)
        ·
         refine Zm (fun g8 => ?_) (fun g8 => ?_)
         ·
          exact Zk (r := (.r0 (true) : Zv)) (fu := 4000) (orc := (Zi [(0, false), (1, false), (2, false), (3, false), (4, true), (5, true), (6, true)] [] [] [] [(0, .sh (a2).toNat)])) (live := []) (u := vT) (bl := []) (ob := [((decide (a1 ≤ (IntKind.i64.wrap ((IntKind.i64.wrap ((1 : Int) * (2 ^ (a2).toNat : Int))) - (1 : Int))))), true), ((decide ((0 : Int) ≤ a1)), true), (dP (a2 = Int.ofNat (a2).toNat ∧ (a2).toNat ≤ IntKind.i64.bits), true), ((a0 == (5 : Int)), true), ((a0 == (4 : Int)), false), ((a0 == (3 : Int)), false), ((a0 == (2 : Int)), false), ((a0 == (1 : Int)), false)]) (by kernel_rfl) (oY <| oY <| Za (Zf ⟨by first | rfl | exact Zlh (by omega), show _ ≤ 64 from by omega⟩) <| oT <| oF <| oF <| oF <| oF Zd) rfl (by decide) (by rfl) rr trivial
         ·
          exact Zk (r := (.r0 (false) : Zv)) (fu := 4000) (orc := (Zi [(0, false), (1, false), (2, false), (3, false), (4, true), (5, true), (6, false)] [] [] [] [(0, .sh (a2).toNat)])) (live := []) (u := vf) (bl := []) (ob := [((decide (a1 ≤ (IntKind.i64.wrap ((IntKind.i64.wrap ((1 : Int) * (2 ^ (a2).toNat : Int))) - (1 : Int))))), false), ((decide ((0 : Int) ≤ a1)), true), (dP (a2 = Int.ofNat (a2).toNat ∧ (a2).toNat ≤ IntKind.i64.bits), true), ((a0 == (5 : Int)), true), ((a0 == (4 : Int)), false), ((a0 == (3 : Int)), false), ((a0 == (2 : Int)), false), ((a0 == (1 : Int)), false)]) (by kernel_rfl) (oN <| oY <| Za (Zf ⟨by first | rfl | exact Zlh (by omega), show _ ≤ 64 from by omega⟩) <| oT <| oF <| oF <| oF <| oF Zd) rfl (by decide) (by rfl) rr trivial
        ·
         exact Zk (r := (.r0 (false) : Zv)) (fu := 4000) (orc := (Zi [(0, false), (1, false), (2, false), (3, false), (4, true), (5, false)] [] [] [] [(0, .sh (a2).toNat)])) (live := []) (u := vf) (bl := []) (ob := [((decide ((0 : Int) ≤ a1)), false), (dP (a2 = Int.ofNat (a2).toNat ∧ (a2).toNat ≤ IntKind.i64.bits), true), ((a0 == (5 : Int)), true), ((a0 == (4 : Int)), false), ((a0 == (3 : Int)), false), ((a0 == (2 : Int)), false), ((a0 == (1 : Int)), false)]) (by kernel_rfl) (oN <| Za (Zf ⟨by first | rfl | exact Zlh (by omega), show _ ≤ 64 from by omega⟩) <| oT <| oF <| oF <| oF <| oF Zd) rfl (by decide) (by rfl) rr trivial
       ·
        exact Za6
      ·
       exact Za6
     ·
      refine Zm (fun g5 => ?_) (fun g5 => ?_)
      ·
       refine Zm (fun g6 => ?_) (fun g6 => ?_)
       ·
        refine Zm (fun g7 => ?_) (fun g7 => ?_)
        ·
         exact Zk (r := (.r0 (true) : Zv)) (fu := 4000) (orc := (Zi [(0, false), (1, false), (2, false), (3, false), (4, false), (5, true), (6, true), (7, true)] [] [] [] [])) (live := []) (u := vT) (bl := []) (ob := [((decide (a1 ≤ (1099511627776 : Int))), true), ((decide ((-1099511627776 : Int) ≤ a1)), true), ((a0 == (6 : Int)), true), ((a0 == (5 : Int)), false), ((a0 == (4 : Int)), false), ((a0 == (3 : Int)), false), ((a0 == (2 : Int)), false), ((a0 == (1 : Int)), false)]) (by kernel_rfl) (oY <| oY <| oT <| oF <| oF <| oF <| oF <| oF Zd) rfl (by decide) (by rfl) rr trivial
        ·
         exact Zk (r := (.r0 (false) : Zv)) (fu := 4000) (orc := (Zi [(0, false), (1, false), (2, false), (3, false), (4, false), (5, true), (6, true), (7, false)] [] [] [] [])) (live := []) (u := vf) (bl := []) (ob := [((decide (a1 ≤ (1099511627776 : Int))), false), ((decide ((-1099511627776 : Int) ≤ a1)), true), ((a0 == (6 : Int)), true), ((a0 == (5 : Int)), false), ((a0 == (4 : Int)), false), ((a0 == (3 : Int)), false), ((a0 == (2 : Int)), false), ((a0 == (1 : Int)), false)]) (by kernel_rfl) (oN <| oY <| oT <| oF <| oF <| oF <| oF <| oF Zd) rfl (by decide) (by rfl) rr trivial
       ·
        exact Zk (r := (.r0 (false) : Zv)) (fu := 4000) (orc := (Zi [(0, false), (1, false), (2, false), (3, false), (4, false), (5, true), (6, false)] [] [] [] [])) (live := []) (u := vf) (bl := []) (ob := [((decide ((-1099511627776 : Int) ≤ a1)), false), ((a0 == (6 : Int)), true), ((a0 == (5 : Int)), false), ((a0 == (4 : Int)), false), ((a0 == (3 : Int)), false), ((a0 == (2 : Int)), false), ((a0 == (1 : Int)), false)]) (by kernel_rfl) (oN <| oT <| oF <| oF <| oF <| oF <| oF Zd) rfl (by decide) (by rfl) rr trivial
      ·
       refine Zm (fun g6 => ?_) (fun g6 => ?_)
       ·
        refine Zm (fun g7 => ?_) (fun g7 => ?_)
        ·
         exact Zk (r := (.r0 (true) : Zv)) (fu := 4000) (orc := (Zi [(0, false), (1, false), (2, false), (3, false), (4, false), (5, false), (6, true), (7, true)] [] [] [] [])) (live := []) (u := vT) (bl := []) (ob := [((decide (a1 ≤ (0 : Int))), true), ((decide ((0 : Int) ≤ a1)), true), ((a0 == (6 : Int)), false), ((a0 == (5 : Int)), false), ((a0 == (4 : Int)), false), ((a0 == (3 : Int)), false), ((a0 == (2 : Int)), false), ((a0 == (1 : Int)), false)]) (by kernel_rfl) (oY <| oY <| oF <| oF <| oF <| oF <| oF <| oF Zd) rfl (by decide) (by rfl) rr trivial
        ·
         exact Zk (r := (.r0 (false) : Zv)) (fu := 4000) (orc := (Zi [(0, false), (1, false), (2, false), (3, false), (4, false), (5, false), (6, true), (7, false)] [] [] [] [])) (live := []) (u := vf) (bl := []) (ob := [((decide (a1 ≤ (0 : Int))), false), ((decide ((0 : Int) ≤ a1)), true), ((a0 == (6 : Int)), false), ((a0 == (5 : Int)), false), ((a0 == (4 : Int)), false), ((a0 == (3 : Int)), false), ((a0 == (2 : Int)), false), ((a0 == (1 : Int)), false)]) (by kernel_rfl) (oN <| oY <| oF <| oF <| oF <| oF <| oF <| oF Zd) rfl (by decide) (by rfl) rr trivial
       ·
        exact Zk (r := (.r0 (false) : Zv)) (fu := 4000) (orc := (Zi [(0, false), (1, false), (2, false), (3, false), (4, false), (5, false), (6, false)] [] [] [] [])) (live := []) (u := vf) (bl := []) (ob := [((decide ((0 : Int) ≤ a1)), false), ((a0 == (6 : Int)), false), ((a0 == (5 : Int)), false), ((a0 == (4 : Int)), false), ((a0 == (3 : Int)), false), ((a0 == (2 : Int)), false), ((a0 == (1 : Int)), false)]) (by kernel_rfl) (oN <| oF <| oF <| oF <| oF <| oF <| oF Zd) rfl (by decide) (by rfl) rr trivial

theorem Zli (a0 a1 a2 : Int) (N : Nat) (r : Zv) (h : ZI a0 a1 a2 N = some r) : LSpec Try.prog 48 #[vi a0, vi a1, vi a2] [] (ZiD a0 a1 a2 r) (Zin a0 a1 a2 r) :=
 ZaB Zao Try.func48 (by kernel_rfl) (by kernel_rfl) (fun r => by cases r <;> exact ZN _ rfl) (ZmG a0 a1 a2 N) h

noncomputable def Zdf (a0 a1 a2 : Int) (w0 : Bool) (n : Nat) : Zak := .call [] (Value.bool w0) [] 0
def Zcu (A : Array Value) (a0 a1 a2 : Int) (w0 : Bool) (n : Nat) : Prop := Zw Try.prog 48 A [] (Value.bool w0) [] n 0

theorem Zdg (A : Array Value) (a0 a1 a2 : Int) (w0 : Bool) (N : Nat) (h : ZI a0 a1 a2 N = some (.r0 w0)) (n : Nat) (hA : A = #[vi a0, vi a1, vi a2]) (hnd : ([] : List Nat).Nodup) (hlt : ∀ k ∈ ([] : List Nat), k < n) : Zcu A a0 a1 a2 w0  n :=
 Z0 hA (LSpec.callL (show LSpec Try.prog 48 #[vi a0, vi a1, vi a2] [] (Value.bool w0) [] from Zli a0 a1 a2 N _ h) [] n [] rfl hnd hlt (show 0 ≤ 0 from by decide) (show ∀ j ∈ ([] : List Nat), j < 0 from by decide) (by rfl) trivial (by rfl) trivial trivial rfl rfl rfl rfl rfl)

noncomputable def ZnH (a0 a1 a2 a3 : Int) : ZaD → Value
 | .r0 w0 => vi w0
noncomputable def Zmm (a0 a1 a2 a3 : Int) : ZaD → List (Option AObj)
 | .r0 w0 => []

def Zsd : Zt → Nat
 | .h1m0 v1 v2 v3 => 1
 | .h1m1 v1 v2 v3 => 1
 | .h1m2 v1 v2 v3 => 1
 | .h1m3 v1 v2 v3 => 1
noncomputable def Ztr (a0 a1 a2 a3 : Int) : Zt → List (Nat × Value)
 | .h1m0 v1 v2 v3 => [(4, vp 0 0), (5, v0), (22, Value.agg #[vi (v1 : Int), vi (v2 : Int), vi (v3 : Int)]), (23, v0)]
 | .h1m1 v1 v2 v3 => [(4, vp 0 0), (5, vi a1), (22, Value.agg #[vi (v1 : Int), vi (v2 : Int), vi (v3 : Int)]), (23, vi (1 : Int))]
 | .h1m2 v1 v2 v3 => [(4, vp 0 0), (5, vi a2), (22, Value.agg #[vi (v1 : Int), vi (v2 : Int), vi (v3 : Int)]), (23, vi (2 : Int))]
 | .h1m3 v1 v2 v3 => [(4, vp 0 0), (5, vi a3), (22, Value.agg #[vi (v1 : Int), vi (v2 : Int), vi (v3 : Int)]), (23, vi (3 : Int))]
noncomputable def Zts (a0 a1 a2 a3 : Int) : Zt → List (Option AObj)
 | .h1m0 v1 v2 v3 => [some (.cells [vi a1, vi a2, vi a3] 70)]
 | .h1m1 v1 v2 v3 => [some (.cells [vi a1, vi a2, vi a3] 70)]
 | .h1m2 v1 v2 v3 => [some (.cells [vi a1, vi a2, vi a3] 70)]
 | .h1m3 v1 v2 v3 => [some (.cells [vi a1, vi a2, vi a3] 70)]

noncomputable def Z3 : Nat → Code × List ZaO
 | 1 => Zcm [1, 1, 1, 1, 1, 0, 1, 3] (Zc1 Try.f41) []
 | _ => (.skip, [])
def Zmn : Nat → Bool
 | 1 => true
 | _ => true
noncomputable def Zj3 (i : Nat) : List ZaO := match Zmn i with | true => .rnd i :: (Z3 i).2 | false => (Z3 i).2

noncomputable def ZB (a0 a1 a2 a3 : Int) (N : Nat) : Mach := ⟨Try.f41, [], Zt, ZaD, Zc8 a0 a1 a2 a3 N, Zsd, Z3, Zmn, Ztr a0 a1 a2 a3, Zts a0 a1 a2 a3, ZnH a0 a1 a2 a3, Zmm a0 a1 a2 a3⟩

theorem ZoD (a0 a1 a2 a3 : Int) (v1 v2 v3 N : Nat) : (ZB a0 a1 a2 a3 N).Ok Try.prog Zr (.h1m0 v1 v2 v3 : Zt) (Zc8 a0 a1 a2 a3 N (.h1m0 v1 v2 v3 : Zt)) := by
 show (ZB a0 a1 a2 a3 N).Ok Try.prog Zr (.h1m0 v1 v2 v3 : Zt) (ZcS a0 a1 a2 a3 N v1 v2 v3)
 unfold ZcS
 refine Mach.ok_bind (fun z0 c0 => ?_)
 cases z0 with
 | r0 y0_0 =>
  refine Mach.ok_ite (fun g1 => ?_) (fun g1 => ?_)
  ·
   exact Mach.ok_fin (M := ZB a0 a1 a2 a3 N) (cd := 1000000) (cm := 0) (r := (.r0 ((100 : Int)) : ZaD)) (fu := 4000) (orc := (Zi [(1, true)] [] [] [] [(0, (Zdf ((v1 : Int)) (a1) ((0 : Int))  y0_0  1))])) (live := []) (u := vi (100 : Int)) (bl := []) (ob := [((!y0_0), true), (dP (Zcu #[vi (v1 : Int), vi a1, v0] ((v1 : Int)) (a1) ((0 : Int))  y0_0  1), true)]) (fun gv => by kernel_rfl) (Za (ZgK (by first | assumption | simp_all)) <| Za (Zf (Zdg #[vi (v1 : Int), vi a1, v0] ((v1 : Int)) (a1) ((0 : Int))  y0_0 N c0  1 rfl (by decide) (by decide))) Zd) rfl (by decide) (by rfl) rr trivial
  ·
   exact Mach.ok_next (M := ZB a0 a1 a2 a3 N) (cd := 1000000) (cm := 0) (y := (.h1m1 (v1) (v2) (v3) : Zt)) (fu := 4000) (orc := (Zi [(1, false)] [] [] [] [(0, (Zdf ((v1 : Int)) (a1) ((0 : Int))  y0_0  1))])) (live := [0]) (tv := fun _ => [some (vp 0 0), some (vi a1), some (Value.agg #[vi (v1 : Int), vi (v2 : Int), vi (v3 : Int)]), some (vi (1 : Int))]) (bl := [some (.cells [vi a1, vi a2, vi a3] 70)]) (ob := [((!y0_0), false), (dP (Zcu #[vi (v1 : Int), vi a1, v0] ((v1 : Int)) (a1) ((0 : Int))  y0_0  1), true)]) rfl (show 1 ∈ Zx (Zj3 1) from by decide +kernel) (fun gv => by kernel_rfl) (Za (ZfA (by first | assumption | simp_all)) <| Za (Zf (Zdg #[vi (v1 : Int), vi a1, v0] ((v1 : Int)) (a1) ((0 : Int))  y0_0 N c0  1 rfl (by decide) (by decide))) Zd) rfl (by decide) (by rfl) (fun _ => ⟨rr, ⟨rr, ⟨rr, ⟨rr, trivial⟩⟩⟩⟩) ⟨⟨rfl, ⟨[], by rfl⟩, by rfl⟩, trivial⟩

theorem ZoE (a0 a1 a2 a3 : Int) (v1 v2 v3 N : Nat) : (ZB a0 a1 a2 a3 N).Ok Try.prog Zr (.h1m1 v1 v2 v3 : Zt) (Zc8 a0 a1 a2 a3 N (.h1m1 v1 v2 v3 : Zt)) := by
 show (ZB a0 a1 a2 a3 N).Ok Try.prog Zr (.h1m1 v1 v2 v3 : Zt) (ZcT a0 a1 a2 a3 N v1 v2 v3)
 unfold ZcT
 refine Mach.ok_bind (fun z0 c0 => ?_)
 cases z0 with
 | r0 y0_0 =>
  refine Mach.ok_ite (fun g1 => ?_) (fun g1 => ?_)
  ·
   exact Mach.ok_fin (M := ZB a0 a1 a2 a3 N) (cd := 1000000) (cm := 0) (r := (.r0 ((100 : Int)) : ZaD)) (fu := 4000) (orc := (Zi [(1, true)] [] [] [] [(0, (Zdf ((v2 : Int)) (a2) (a1)  y0_0  1))])) (live := []) (u := vi (100 : Int)) (bl := []) (ob := [((!y0_0), true), (dP (Zcu #[vi (v2 : Int), vi a2, vi a1] ((v2 : Int)) (a2) (a1)  y0_0  1), true)]) (fun gv => by kernel_rfl) (Za (ZgK (by first | assumption | simp_all)) <| Za (Zf (Zdg #[vi (v2 : Int), vi a2, vi a1] ((v2 : Int)) (a2) (a1)  y0_0 N c0  1 rfl (by decide) (by decide))) Zd) rfl (by decide) (by rfl) rr trivial
  ·
   exact Mach.ok_next (M := ZB a0 a1 a2 a3 N) (cd := 1000000) (cm := 0) (y := (.h1m2 (v1) (v2) (v3) : Zt)) (fu := 4000) (orc := (Zi [(1, false)] [] [] [] [(0, (Zdf ((v2 : Int)) (a2) (a1)  y0_0  1))])) (live := [0]) (tv := fun _ => [some (vp 0 0), some (vi a2), some (Value.agg #[vi (v1 : Int), vi (v2 : Int), vi (v3 : Int)]), some (vi (2 : Int))]) (bl := [some (.cells [vi a1, vi a2, vi a3] 70)]) (ob := [((!y0_0), false), (dP (Zcu #[vi (v2 : Int), vi a2, vi a1] ((v2 : Int)) (a2) (a1)  y0_0  1), true)]) rfl (show 1 ∈ Zx (Zj3 1) from by decide +kernel) (fun gv => by kernel_rfl) (Za (ZfA (by first | assumption | simp_all)) <| Za (Zf (Zdg #[vi (v2 : Int), vi a2, vi a1] ((v2 : Int)) (a2) (a1)  y0_0 N c0  1 rfl (by decide) (by decide))) Zd) rfl (by decide) (by rfl) (fun _ => ⟨rr, ⟨rr, ⟨rr, ⟨rr, trivial⟩⟩⟩⟩) ⟨⟨rfl, ⟨[], by rfl⟩, by rfl⟩, trivial⟩

theorem ZoF (a0 a1 a2 a3 : Int) (v1 v2 v3 N : Nat) : (ZB a0 a1 a2 a3 N).Ok Try.prog Zr (.h1m2 v1 v2 v3 : Zt) (Zc8 a0 a1 a2 a3 N (.h1m2 v1 v2 v3 : Zt)) := by
 show (ZB a0 a1 a2 a3 N).Ok Try.prog Zr (.h1m2 v1 v2 v3 : Zt) (ZcU a0 a1 a2 a3 N v1 v2 v3)
 unfold ZcU
 refine Mach.ok_bind (fun z0 c0 => ?_)
 cases z0 with
 | r0 y0_0 =>
  refine Mach.ok_ite (fun g1 => ?_) (fun g1 => ?_)
  ·
   exact Mach.ok_fin (M := ZB a0 a1 a2 a3 N) (cd := 1000000) (cm := 0) (r := (.r0 ((100 : Int)) : ZaD)) (fu := 4000) (orc := (Zi [(1, true)] [] [] [] [(0, (Zdf ((v3 : Int)) (a3) (a2)  y0_0  1))])) (live := []) (u := vi (100 : Int)) (bl := []) (ob := [((!y0_0), true), (dP (Zcu #[vi (v3 : Int), vi a3, vi a2] ((v3 : Int)) (a3) (a2)  y0_0  1), true)]) (fun gv => by kernel_rfl) (Za (ZgK (by first | assumption | simp_all)) <| Za (Zf (Zdg #[vi (v3 : Int), vi a3, vi a2] ((v3 : Int)) (a3) (a2)  y0_0 N c0  1 rfl (by decide) (by decide))) Zd) rfl (by decide) (by rfl) rr trivial
  ·
   exact Mach.ok_next (M := ZB a0 a1 a2 a3 N) (cd := 1000000) (cm := 0) (y := (.h1m3 (v1) (v2) (v3) : Zt)) (fu := 4000) (orc := (Zi [(1, false)] [] [] [] [(0, (Zdf ((v3 : Int)) (a3) (a2)  y0_0  1))])) (live := [0]) (tv := fun _ => [some (vp 0 0), some (vi a3), some (Value.agg #[vi (v1 : Int), vi (v2 : Int), vi (v3 : Int)]), some (vi (3 : Int))]) (bl := [some (.cells [vi a1, vi a2, vi a3] 70)]) (ob := [((!y0_0), false), (dP (Zcu #[vi (v3 : Int), vi a3, vi a2] ((v3 : Int)) (a3) (a2)  y0_0  1), true)]) rfl (show 1 ∈ Zx (Zj3 1) from by decide +kernel) (fun gv => by kernel_rfl) (Za (ZfA (by first | assumption | simp_all)) <| Za (Zf (Zdg #[vi (v3 : Int), vi a3, vi a2] ((v3 : Int)) (a3) (a2)  y0_0 N c0  1 rfl (by decide) (by decide))) Zd) rfl (by decide) (by rfl) (fun _ => ⟨rr, ⟨rr, ⟨rr, ⟨rr, trivial⟩⟩⟩⟩) ⟨⟨rfl, ⟨[], by rfl⟩, by rfl⟩, trivial⟩

theorem ZoG (a0 a1 a2 a3 : Int) (v1 v2 v3 N : Nat) : (ZB a0 a1 a2 a3 N).Ok Try.prog Zr (.h1m3 v1 v2 v3 : Zt) (Zc8 a0 a1 a2 a3 N (.h1m3 v1 v2 v3 : Zt)) := by
 show (ZB a0 a1 a2 a3 N).Ok Try.prog Zr (.h1m3 v1 v2 v3 : Zt) (Zf2 a0 a1 a2 a3 N v1 v2 v3)
 unfold Zf2
 exact Mach.ok_fin (M := ZB a0 a1 a2 a3 N) (cd := 1000000) (cm := 0) (r := (.r0 ((0 : Int)) : ZaD)) (fu := 4000) (orc := (Zi [] [] [] [] [])) (live := []) (u := v0) (bl := []) (ob := []) (fun gv => by kernel_rfl) Zd rfl (by decide) (by rfl) rr trivial

theorem Zra (a0 a1 a2 a3 : Int) (N : Nat) : (ZB a0 a1 a2 a3 N).Enter Try.prog Zr #[Value.agg #[vi a0, vi a1, vi a2, vi a3]] (ZfB a0 a1 a2 a3 N) := by
 unfold ZfB
 refine Mach.en_bind (fun z0 c0 => ?_)
 cases z0 with
 | r0 =>
  exact Mach.en_fin (M := ZB a0 a1 a2 a3 N) (cd := 1000000) (cm := 0) (r := (.r0 ((100 : Int)) : ZaD)) (fu := 4000) (orc := (Zi [] [] [] [] [(0, (ZsX (a0)    1))])) (live := []) (u := vi (100 : Int)) (bl := []) (ob := [(dP (Zn7 #[vi a0] (a0)    1), true)]) (by kernel_rfl) (Za (Zf (ZsY #[vi a0] (a0)   N c0  1 rfl (by decide) (by decide))) Zd) rfl (by decide) (by rfl) rr trivial
 | r1 =>
  exact Mach.en_head (bK := Z3 1) (M := ZB a0 a1 a2 a3 N) (cd := 1000000) (cm := 0) (y := (.h1m0 (1) (6) (0) : Zt)) (fu := 4000) (orc := (Zi [] [] [] [] [(0, (ZsZ (a0)    1))])) (live := [2]) (tv := [some (vp 2 0), some (v0), some (Value.agg #[vi (1 : Int), vi (6 : Int), v0]), some (v0)]) (bl := [some (.cells [vi a1, vi a2, vi a3] 70)]) (ob := [(dP (Zn8 #[vi a0] (a0)    1), true)]) rfl rfl (show Zx (Z3 1).2 = [] from rfl) (by kernel_rfl) (Za (Zf (Zta #[vi a0] (a0)   N c0  1 rfl (by decide) (by decide))) Zd) rfl (by decide) (by rfl) ⟨rr, ⟨rr, ⟨⟨Eq.trans (show (Value.agg #[vi ((1 : Nat) : Int), vi ((6 : Nat) : Int), vi ((0 : Nat) : Int)] : Value) = Value.agg #[vi (1 : Int), vi (6 : Int), v0] from (Zda (Zc (congrArg (Value.int .i64) (by first | rfl | omega)) (Zc (congrArg (Value.int .i64) (by first | rfl | omega)) (Zc (congrArg (Value.int .i64) (by first | rfl | omega)) rfl))))) (by rfl), by rfl⟩, ⟨rr, trivial⟩⟩⟩⟩ ⟨⟨rfl, ⟨[], by rfl⟩, by rfl⟩, trivial⟩
 | r2 =>
  exact Mach.en_head (bK := Z3 1) (M := ZB a0 a1 a2 a3 N) (cd := 1000000) (cm := 0) (y := (.h1m0 (1) (0) (0) : Zt)) (fu := 4000) (orc := (Zi [] [] [] [] [(0, (Ztb (a0)    1))])) (live := [2]) (tv := [some (vp 2 0), some (v0), some (Value.agg #[vi (1 : Int), v0, v0]), some (v0)]) (bl := [some (.cells [vi a1, vi a2, vi a3] 70)]) (ob := [(dP (Zn9 #[vi a0] (a0)    1), true)]) rfl rfl (show Zx (Z3 1).2 = [] from rfl) (by kernel_rfl) (Za (Zf (Ztc #[vi a0] (a0)   N c0  1 rfl (by decide) (by decide))) Zd) rfl (by decide) (by rfl) ⟨rr, ⟨rr, ⟨⟨Eq.trans (show (Value.agg #[vi ((1 : Nat) : Int), vi ((0 : Nat) : Int), vi ((0 : Nat) : Int)] : Value) = Value.agg #[vi (1 : Int), v0, v0] from (Zda (Zc (congrArg (Value.int .i64) (by first | rfl | omega)) (Zc (congrArg (Value.int .i64) (by first | rfl | omega)) (Zc (congrArg (Value.int .i64) (by first | rfl | omega)) rfl))))) (by rfl), by rfl⟩, ⟨rr, trivial⟩⟩⟩⟩ ⟨⟨rfl, ⟨[], by rfl⟩, by rfl⟩, trivial⟩
 | r3 =>
  exact Mach.en_head (bK := Z3 1) (M := ZB a0 a1 a2 a3 N) (cd := 1000000) (cm := 0) (y := (.h1m0 (1) (1) (0) : Zt)) (fu := 4000) (orc := (Zi [] [] [] [] [(0, (Ztd (a0)    1))])) (live := [2]) (tv := [some (vp 2 0), some (v0), some (Value.agg #[vi (1 : Int), vi (1 : Int), v0]), some (v0)]) (bl := [some (.cells [vi a1, vi a2, vi a3] 70)]) (ob := [(dP (ZnA #[vi a0] (a0)    1), true)]) rfl rfl (show Zx (Z3 1).2 = [] from rfl) (by kernel_rfl) (Za (Zf (Zte #[vi a0] (a0)   N c0  1 rfl (by decide) (by decide))) Zd) rfl (by decide) (by rfl) ⟨rr, ⟨rr, ⟨⟨Eq.trans (show (Value.agg #[vi ((1 : Nat) : Int), vi ((1 : Nat) : Int), vi ((0 : Nat) : Int)] : Value) = Value.agg #[vi (1 : Int), vi (1 : Int), v0] from (Zda (Zc (congrArg (Value.int .i64) (by first | rfl | omega)) (Zc (congrArg (Value.int .i64) (by first | rfl | omega)) (Zc (congrArg (Value.int .i64) (by first | rfl | omega)) rfl))))) (by rfl), by rfl⟩, ⟨rr, trivial⟩⟩⟩⟩ ⟨⟨rfl, ⟨[], by rfl⟩, by rfl⟩, trivial⟩
 | r4 =>
  exact Mach.en_head (bK := Z3 1) (M := ZB a0 a1 a2 a3 N) (cd := 1000000) (cm := 0) (y := (.h1m0 (1) (1) (1) : Zt)) (fu := 4000) (orc := (Zi [] [] [] [] [(0, (Ztf (a0)    1))])) (live := [2]) (tv := [some (vp 2 0), some (v0), some (Value.agg #[vi (1 : Int), vi (1 : Int), vi (1 : Int)]), some (v0)]) (bl := [some (.cells [vi a1, vi a2, vi a3] 70)]) (ob := [(dP (ZnB #[vi a0] (a0)    1), true)]) rfl rfl (show Zx (Z3 1).2 = [] from rfl) (by kernel_rfl) (Za (Zf (Ztg #[vi a0] (a0)   N c0  1 rfl (by decide) (by decide))) Zd) rfl (by decide) (by rfl) ⟨rr, ⟨rr, ⟨⟨Eq.trans (show (Value.agg #[vi ((1 : Nat) : Int), vi ((1 : Nat) : Int), vi ((1 : Nat) : Int)] : Value) = Value.agg #[vi (1 : Int), vi (1 : Int), vi (1 : Int)] from (Zda (Zc (congrArg (Value.int .i64) (by first | rfl | omega)) (Zc (congrArg (Value.int .i64) (by first | rfl | omega)) (Zc (congrArg (Value.int .i64) (by first | rfl | omega)) rfl))))) (by rfl), by rfl⟩, ⟨rr, trivial⟩⟩⟩⟩ ⟨⟨rfl, ⟨[], by rfl⟩, by rfl⟩, trivial⟩
 | r5 =>
  exact Mach.en_head (bK := Z3 1) (M := ZB a0 a1 a2 a3 N) (cd := 1000000) (cm := 0) (y := (.h1m0 (1) (1) (1) : Zt)) (fu := 4000) (orc := (Zi [] [] [] [] [(0, (Zth (a0)    1))])) (live := [2]) (tv := [some (vp 2 0), some (v0), some (Value.agg #[vi (1 : Int), vi (1 : Int), vi (1 : Int)]), some (v0)]) (bl := [some (.cells [vi a1, vi a2, vi a3] 70)]) (ob := [(dP (ZnC #[vi a0] (a0)    1), true)]) rfl rfl (show Zx (Z3 1).2 = [] from rfl) (by kernel_rfl) (Za (Zf (Zti #[vi a0] (a0)   N c0  1 rfl (by decide) (by decide))) Zd) rfl (by decide) (by rfl) ⟨rr, ⟨rr, ⟨⟨Eq.trans (show (Value.agg #[vi ((1 : Nat) : Int), vi ((1 : Nat) : Int), vi ((1 : Nat) : Int)] : Value) = Value.agg #[vi (1 : Int), vi (1 : Int), vi (1 : Int)] from (Zda (Zc (congrArg (Value.int .i64) (by first | rfl | omega)) (Zc (congrArg (Value.int .i64) (by first | rfl | omega)) (Zc (congrArg (Value.int .i64) (by first | rfl | omega)) rfl))))) (by rfl), by rfl⟩, ⟨rr, trivial⟩⟩⟩⟩ ⟨⟨rfl, ⟨[], by rfl⟩, by rfl⟩, trivial⟩
 | r6 =>
  exact Mach.en_head (bK := Z3 1) (M := ZB a0 a1 a2 a3 N) (cd := 1000000) (cm := 0) (y := (.h1m0 (1) (1) (1) : Zt)) (fu := 4000) (orc := (Zi [] [] [] [] [(0, (Ztj (a0)    1))])) (live := [2]) (tv := [some (vp 2 0), some (v0), some (Value.agg #[vi (1 : Int), vi (1 : Int), vi (1 : Int)]), some (v0)]) (bl := [some (.cells [vi a1, vi a2, vi a3] 70)]) (ob := [(dP (ZnD #[vi a0] (a0)    1), true)]) rfl rfl (show Zx (Z3 1).2 = [] from rfl) (by kernel_rfl) (Za (Zf (Ztk #[vi a0] (a0)   N c0  1 rfl (by decide) (by decide))) Zd) rfl (by decide) (by rfl) ⟨rr, ⟨rr, ⟨⟨Eq.trans (show (Value.agg #[vi ((1 : Nat) : Int), vi ((1 : Nat) : Int), vi ((1 : Nat) : Int)] : Value) = Value.agg #[vi (1 : Int), vi (1 : Int), vi (1 : Int)] from (Zda (Zc (congrArg (Value.int .i64) (by first | rfl | omega)) (Zc (congrArg (Value.int .i64) (by first | rfl | omega)) (Zc (congrArg (Value.int .i64) (by first | rfl | omega)) rfl))))) (by rfl), by rfl⟩, ⟨rr, trivial⟩⟩⟩⟩ ⟨⟨rfl, ⟨[], by rfl⟩, by rfl⟩, trivial⟩
 | r7 =>
  exact Mach.en_head (bK := Z3 1) (M := ZB a0 a1 a2 a3 N) (cd := 1000000) (cm := 0) (y := (.h1m0 (1) (1) (1) : Zt)) (fu := 4000) (orc := (Zi [] [] [] [] [(0, (Ztl (a0)    1))])) (live := [2]) (tv := [some (vp 2 0), some (v0), some (Value.agg #[vi (1 : Int), vi (1 : Int), vi (1 : Int)]), some (v0)]) (bl := [some (.cells [vi a1, vi a2, vi a3] 70)]) (ob := [(dP (ZnE #[vi a0] (a0)    1), true)]) rfl rfl (show Zx (Z3 1).2 = [] from rfl) (by kernel_rfl) (Za (Zf (Ztm #[vi a0] (a0)   N c0  1 rfl (by decide) (by decide))) Zd) rfl (by decide) (by rfl) ⟨rr, ⟨rr, ⟨⟨Eq.trans (show (Value.agg #[vi ((1 : Nat) : Int), vi ((1 : Nat) : Int), vi ((1 : Nat) : Int)] : Value) = Value.agg #[vi (1 : Int), vi (1 : Int), vi (1 : Int)] from (Zda (Zc (congrArg (Value.int .i64) (by first | rfl | omega)) (Zc (congrArg (Value.int .i64) (by first | rfl | omega)) (Zc (congrArg (Value.int .i64) (by first | rfl | omega)) rfl))))) (by rfl), by rfl⟩, ⟨rr, trivial⟩⟩⟩⟩ ⟨⟨rfl, ⟨[], by rfl⟩, by rfl⟩, trivial⟩
 | r8 =>
  exact Mach.en_head (bK := Z3 1) (M := ZB a0 a1 a2 a3 N) (cd := 1000000) (cm := 0) (y := (.h1m0 (4) (0) (0) : Zt)) (fu := 4000) (orc := (Zi [] [] [] [] [(0, (Ztn (a0)    1))])) (live := [2]) (tv := [some (vp 2 0), some (v0), some (Value.agg #[vi (4 : Int), v0, v0]), some (v0)]) (bl := [some (.cells [vi a1, vi a2, vi a3] 70)]) (ob := [(dP (ZnF #[vi a0] (a0)    1), true)]) rfl rfl (show Zx (Z3 1).2 = [] from rfl) (by kernel_rfl) (Za (Zf (Zto #[vi a0] (a0)   N c0  1 rfl (by decide) (by decide))) Zd) rfl (by decide) (by rfl) ⟨rr, ⟨rr, ⟨⟨Eq.trans (show (Value.agg #[vi ((4 : Nat) : Int), vi ((0 : Nat) : Int), vi ((0 : Nat) : Int)] : Value) = Value.agg #[vi (4 : Int), v0, v0] from (Zda (Zc (congrArg (Value.int .i64) (by first | rfl | omega)) (Zc (congrArg (Value.int .i64) (by first | rfl | omega)) (Zc (congrArg (Value.int .i64) (by first | rfl | omega)) rfl))))) (by rfl), by rfl⟩, ⟨rr, trivial⟩⟩⟩⟩ ⟨⟨rfl, ⟨[], by rfl⟩, by rfl⟩, trivial⟩
 | r9 =>
  exact Mach.en_head (bK := Z3 1) (M := ZB a0 a1 a2 a3 N) (cd := 1000000) (cm := 0) (y := (.h1m0 (1) (4) (0) : Zt)) (fu := 4000) (orc := (Zi [] [] [] [] [(0, (Ztp (a0)    1))])) (live := [2]) (tv := [some (vp 2 0), some (v0), some (Value.agg #[vi (1 : Int), vi (4 : Int), v0]), some (v0)]) (bl := [some (.cells [vi a1, vi a2, vi a3] 70)]) (ob := [(dP (ZnG #[vi a0] (a0)    1), true)]) rfl rfl (show Zx (Z3 1).2 = [] from rfl) (by kernel_rfl) (Za (Zf (Ztq #[vi a0] (a0)   N c0  1 rfl (by decide) (by decide))) Zd) rfl (by decide) (by rfl) ⟨rr, ⟨rr, ⟨⟨Eq.trans (show (Value.agg #[vi ((1 : Nat) : Int), vi ((4 : Nat) : Int), vi ((0 : Nat) : Int)] : Value) = Value.agg #[vi (1 : Int), vi (4 : Int), v0] from (Zda (Zc (congrArg (Value.int .i64) (by first | rfl | omega)) (Zc (congrArg (Value.int .i64) (by first | rfl | omega)) (Zc (congrArg (Value.int .i64) (by first | rfl | omega)) rfl))))) (by rfl), by rfl⟩, ⟨rr, trivial⟩⟩⟩⟩ ⟨⟨rfl, ⟨[], by rfl⟩, by rfl⟩, trivial⟩
 | r10 =>
  exact Mach.en_head (bK := Z3 1) (M := ZB a0 a1 a2 a3 N) (cd := 1000000) (cm := 0) (y := (.h1m0 (1) (0) (0) : Zt)) (fu := 4000) (orc := (Zi [] [] [] [] [(0, (ZrH (a0)    1))])) (live := [2]) (tv := [some (vp 2 0), some (v0), some (Value.agg #[vi (1 : Int), v0, v0]), some (v0)]) (bl := [some (.cells [vi a1, vi a2, vi a3] 70)]) (ob := [(dP (Zmb #[vi a0] (a0)    1), true)]) rfl rfl (show Zx (Z3 1).2 = [] from rfl) (by kernel_rfl) (Za (Zf (ZrI #[vi a0] (a0)   N c0  1 rfl (by decide) (by decide))) Zd) rfl (by decide) (by rfl) ⟨rr, ⟨rr, ⟨⟨Eq.trans (show (Value.agg #[vi ((1 : Nat) : Int), vi ((0 : Nat) : Int), vi ((0 : Nat) : Int)] : Value) = Value.agg #[vi (1 : Int), v0, v0] from (Zda (Zc (congrArg (Value.int .i64) (by first | rfl | omega)) (Zc (congrArg (Value.int .i64) (by first | rfl | omega)) (Zc (congrArg (Value.int .i64) (by first | rfl | omega)) rfl))))) (by rfl), by rfl⟩, ⟨rr, trivial⟩⟩⟩⟩ ⟨⟨rfl, ⟨[], by rfl⟩, by rfl⟩, trivial⟩
 | r11 =>
  exact Mach.en_head (bK := Z3 1) (M := ZB a0 a1 a2 a3 N) (cd := 1000000) (cm := 0) (y := (.h1m0 (1) (3) (5) : Zt)) (fu := 4000) (orc := (Zi [] [] [] [] [(0, (ZrJ (a0)    1))])) (live := [2]) (tv := [some (vp 2 0), some (v0), some (Value.agg #[vi (1 : Int), vi (3 : Int), vi (5 : Int)]), some (v0)]) (bl := [some (.cells [vi a1, vi a2, vi a3] 70)]) (ob := [(dP (Zmc #[vi a0] (a0)    1), true)]) rfl rfl (show Zx (Z3 1).2 = [] from rfl) (by kernel_rfl) (Za (Zf (ZrK #[vi a0] (a0)   N c0  1 rfl (by decide) (by decide))) Zd) rfl (by decide) (by rfl) ⟨rr, ⟨rr, ⟨⟨Eq.trans (show (Value.agg #[vi ((1 : Nat) : Int), vi ((3 : Nat) : Int), vi ((5 : Nat) : Int)] : Value) = Value.agg #[vi (1 : Int), vi (3 : Int), vi (5 : Int)] from (Zda (Zc (congrArg (Value.int .i64) (by first | rfl | omega)) (Zc (congrArg (Value.int .i64) (by first | rfl | omega)) (Zc (congrArg (Value.int .i64) (by first | rfl | omega)) rfl))))) (by rfl), by rfl⟩, ⟨rr, trivial⟩⟩⟩⟩ ⟨⟨rfl, ⟨[], by rfl⟩, by rfl⟩, trivial⟩
 | r12 =>
  exact Mach.en_head (bK := Z3 1) (M := ZB a0 a1 a2 a3 N) (cd := 1000000) (cm := 0) (y := (.h1m0 (1) (0) (0) : Zt)) (fu := 4000) (orc := (Zi [] [] [] [] [(0, (ZrL (a0)    1))])) (live := [2]) (tv := [some (vp 2 0), some (v0), some (Value.agg #[vi (1 : Int), v0, v0]), some (v0)]) (bl := [some (.cells [vi a1, vi a2, vi a3] 70)]) (ob := [(dP (Zmd #[vi a0] (a0)    1), true)]) rfl rfl (show Zx (Z3 1).2 = [] from rfl) (by kernel_rfl) (Za (Zf (ZrM #[vi a0] (a0)   N c0  1 rfl (by decide) (by decide))) Zd) rfl (by decide) (by rfl) ⟨rr, ⟨rr, ⟨⟨Eq.trans (show (Value.agg #[vi ((1 : Nat) : Int), vi ((0 : Nat) : Int), vi ((0 : Nat) : Int)] : Value) = Value.agg #[vi (1 : Int), v0, v0] from (Zda (Zc (congrArg (Value.int .i64) (by first | rfl | omega)) (Zc (congrArg (Value.int .i64) (by first | rfl | omega)) (Zc (congrArg (Value.int .i64) (by first | rfl | omega)) rfl))))) (by rfl), by rfl⟩, ⟨rr, trivial⟩⟩⟩⟩ ⟨⟨rfl, ⟨[], by rfl⟩, by rfl⟩, trivial⟩
 | r13 =>
  exact Mach.en_head (bK := Z3 1) (M := ZB a0 a1 a2 a3 N) (cd := 1000000) (cm := 0) (y := (.h1m0 (1) (1) (2) : Zt)) (fu := 4000) (orc := (Zi [] [] [] [] [(0, (ZrN (a0)    1))])) (live := [2]) (tv := [some (vp 2 0), some (v0), some (Value.agg #[vi (1 : Int), vi (1 : Int), vi (2 : Int)]), some (v0)]) (bl := [some (.cells [vi a1, vi a2, vi a3] 70)]) (ob := [(dP (Zme #[vi a0] (a0)    1), true)]) rfl rfl (show Zx (Z3 1).2 = [] from rfl) (by kernel_rfl) (Za (Zf (ZrO #[vi a0] (a0)   N c0  1 rfl (by decide) (by decide))) Zd) rfl (by decide) (by rfl) ⟨rr, ⟨rr, ⟨⟨Eq.trans (show (Value.agg #[vi ((1 : Nat) : Int), vi ((1 : Nat) : Int), vi ((2 : Nat) : Int)] : Value) = Value.agg #[vi (1 : Int), vi (1 : Int), vi (2 : Int)] from (Zda (Zc (congrArg (Value.int .i64) (by first | rfl | omega)) (Zc (congrArg (Value.int .i64) (by first | rfl | omega)) (Zc (congrArg (Value.int .i64) (by first | rfl | omega)) rfl))))) (by rfl), by rfl⟩, ⟨rr, trivial⟩⟩⟩⟩ ⟨⟨rfl, ⟨[], by rfl⟩, by rfl⟩, trivial⟩
 | r14 =>
  exact Mach.en_head (bK := Z3 1) (M := ZB a0 a1 a2 a3 N) (cd := 1000000) (cm := 0) (y := (.h1m0 (1) (2) (1) : Zt)) (fu := 4000) (orc := (Zi [] [] [] [] [(0, (ZrP (a0)    1))])) (live := [2]) (tv := [some (vp 2 0), some (v0), some (Value.agg #[vi (1 : Int), vi (2 : Int), vi (1 : Int)]), some (v0)]) (bl := [some (.cells [vi a1, vi a2, vi a3] 70)]) (ob := [(dP (Zmf #[vi a0] (a0)    1), true)]) rfl rfl (show Zx (Z3 1).2 = [] from rfl) (by kernel_rfl) (Za (Zf (ZrQ #[vi a0] (a0)   N c0  1 rfl (by decide) (by decide))) Zd) rfl (by decide) (by rfl) ⟨rr, ⟨rr, ⟨⟨Eq.trans (show (Value.agg #[vi ((1 : Nat) : Int), vi ((2 : Nat) : Int), vi ((1 : Nat) : Int)] : Value) = Value.agg #[vi (1 : Int), vi (2 : Int), vi (1 : Int)] from (Zda (Zc (congrArg (Value.int .i64) (by first | rfl | omega)) (Zc (congrArg (Value.int .i64) (by first | rfl | omega)) (Zc (congrArg (Value.int .i64) (by first | rfl | omega)) rfl))))) (by rfl), by rfl⟩, ⟨rr, trivial⟩⟩⟩⟩ ⟨⟨rfl, ⟨[], by rfl⟩, by rfl⟩, trivial⟩
 | r15 =>
  exact Mach.en_head (bK := Z3 1) (M := ZB a0 a1 a2 a3 N) (cd := 1000000) (cm := 0) (y := (.h1m0 (0) (0) (0) : Zt)) (fu := 4000) (orc := (Zi [] [] [] [] [(0, (ZrR (a0)    1))])) (live := [2]) (tv := [some (vp 2 0), some (v0), some (Value.agg #[v0, v0, v0]), some (v0)]) (bl := [some (.cells [vi a1, vi a2, vi a3] 70)]) (ob := [(dP (Zmg #[vi a0] (a0)    1), true)]) rfl rfl (show Zx (Z3 1).2 = [] from rfl) (by kernel_rfl) (Za (Zf (ZrS #[vi a0] (a0)   N c0  1 rfl (by decide) (by decide))) Zd) rfl (by decide) (by rfl) ⟨rr, ⟨rr, ⟨⟨Eq.trans (show (Value.agg #[vi ((0 : Nat) : Int), vi ((0 : Nat) : Int), vi ((0 : Nat) : Int)] : Value) = Value.agg #[v0, v0, v0] from (Zda (Zc (congrArg (Value.int .i64) (by first | rfl | omega)) (Zc (congrArg (Value.int .i64) (by first | rfl | omega)) (Zc (congrArg (Value.int .i64) (by first | rfl | omega)) rfl))))) (by rfl), by rfl⟩, ⟨rr, trivial⟩⟩⟩⟩ ⟨⟨rfl, ⟨[], by rfl⟩, by rfl⟩, trivial⟩
 | r16 =>
  exact Mach.en_head (bK := Z3 1) (M := ZB a0 a1 a2 a3 N) (cd := 1000000) (cm := 0) (y := (.h1m0 (0) (0) (0) : Zt)) (fu := 4000) (orc := (Zi [] [] [] [] [(0, (ZrT (a0)    1))])) (live := [2]) (tv := [some (vp 2 0), some (v0), some (Value.agg #[v0, v0, v0]), some (v0)]) (bl := [some (.cells [vi a1, vi a2, vi a3] 70)]) (ob := [(dP (Zmh #[vi a0] (a0)    1), true)]) rfl rfl (show Zx (Z3 1).2 = [] from rfl) (by kernel_rfl) (Za (Zf (ZrU #[vi a0] (a0)   N c0  1 rfl (by decide) (by decide))) Zd) rfl (by decide) (by rfl) ⟨rr, ⟨rr, ⟨⟨Eq.trans (show (Value.agg #[vi ((0 : Nat) : Int), vi ((0 : Nat) : Int), vi ((0 : Nat) : Int)] : Value) = Value.agg #[v0, v0, v0] from (Zda (Zc (congrArg (Value.int .i64) (by first | rfl | omega)) (Zc (congrArg (Value.int .i64) (by first | rfl | omega)) (Zc (congrArg (Value.int .i64) (by first | rfl | omega)) rfl))))) (by rfl), by rfl⟩, ⟨rr, trivial⟩⟩⟩⟩ ⟨⟨rfl, ⟨[], by rfl⟩, by rfl⟩, trivial⟩
 | r17 =>
  exact Mach.en_head (bK := Z3 1) (M := ZB a0 a1 a2 a3 N) (cd := 1000000) (cm := 0) (y := (.h1m0 (0) (0) (0) : Zt)) (fu := 4000) (orc := (Zi [] [] [] [] [(0, (ZrV (a0)    1))])) (live := [2]) (tv := [some (vp 2 0), some (v0), some (Value.agg #[v0, v0, v0]), some (v0)]) (bl := [some (.cells [vi a1, vi a2, vi a3] 70)]) (ob := [(dP (Zmi #[vi a0] (a0)    1), true)]) rfl rfl (show Zx (Z3 1).2 = [] from rfl) (by kernel_rfl) (Za (Zf (ZrW #[vi a0] (a0)   N c0  1 rfl (by decide) (by decide))) Zd) rfl (by decide) (by rfl) ⟨rr, ⟨rr, ⟨⟨Eq.trans (show (Value.agg #[vi ((0 : Nat) : Int), vi ((0 : Nat) : Int), vi ((0 : Nat) : Int)] : Value) = Value.agg #[v0, v0, v0] from (Zda (Zc (congrArg (Value.int .i64) (by first | rfl | omega)) (Zc (congrArg (Value.int .i64) (by first | rfl | omega)) (Zc (congrArg (Value.int .i64) (by first | rfl | omega)) rfl))))) (by rfl), by rfl⟩, ⟨rr, trivial⟩⟩⟩⟩ ⟨⟨rfl, ⟨[], by rfl⟩, by rfl⟩, trivial⟩
 | r18 =>
  exact Mach.en_head (bK := Z3 1) (M := ZB a0 a1 a2 a3 N) (cd := 1000000) (cm := 0) (y := (.h1m0 (0) (0) (0) : Zt)) (fu := 4000) (orc := (Zi [] [] [] [] [(0, (ZrX (a0)    1))])) (live := [2]) (tv := [some (vp 2 0), some (v0), some (Value.agg #[v0, v0, v0]), some (v0)]) (bl := [some (.cells [vi a1, vi a2, vi a3] 70)]) (ob := [(dP (Zmj #[vi a0] (a0)    1), true)]) rfl rfl (show Zx (Z3 1).2 = [] from rfl) (by kernel_rfl) (Za (Zf (ZrY #[vi a0] (a0)   N c0  1 rfl (by decide) (by decide))) Zd) rfl (by decide) (by rfl) ⟨rr, ⟨rr, ⟨⟨Eq.trans (show (Value.agg #[vi ((0 : Nat) : Int), vi ((0 : Nat) : Int), vi ((0 : Nat) : Int)] : Value) = Value.agg #[v0, v0, v0] from (Zda (Zc (congrArg (Value.int .i64) (by first | rfl | omega)) (Zc (congrArg (Value.int .i64) (by first | rfl | omega)) (Zc (congrArg (Value.int .i64) (by first | rfl | omega)) rfl))))) (by rfl), by rfl⟩, ⟨rr, trivial⟩⟩⟩⟩ ⟨⟨rfl, ⟨[], by rfl⟩, by rfl⟩, trivial⟩
 | r19 =>
  exact Mach.en_head (bK := Z3 1) (M := ZB a0 a1 a2 a3 N) (cd := 1000000) (cm := 0) (y := (.h1m0 (1) (0) (0) : Zt)) (fu := 4000) (orc := (Zi [] [] [] [] [(0, (ZrZ (a0)    1))])) (live := [2]) (tv := [some (vp 2 0), some (v0), some (Value.agg #[vi (1 : Int), v0, v0]), some (v0)]) (bl := [some (.cells [vi a1, vi a2, vi a3] 70)]) (ob := [(dP (Zmk #[vi a0] (a0)    1), true)]) rfl rfl (show Zx (Z3 1).2 = [] from rfl) (by kernel_rfl) (Za (Zf (Zsa #[vi a0] (a0)   N c0  1 rfl (by decide) (by decide))) Zd) rfl (by decide) (by rfl) ⟨rr, ⟨rr, ⟨⟨Eq.trans (show (Value.agg #[vi ((1 : Nat) : Int), vi ((0 : Nat) : Int), vi ((0 : Nat) : Int)] : Value) = Value.agg #[vi (1 : Int), v0, v0] from (Zda (Zc (congrArg (Value.int .i64) (by first | rfl | omega)) (Zc (congrArg (Value.int .i64) (by first | rfl | omega)) (Zc (congrArg (Value.int .i64) (by first | rfl | omega)) rfl))))) (by rfl), by rfl⟩, ⟨rr, trivial⟩⟩⟩⟩ ⟨⟨rfl, ⟨[], by rfl⟩, by rfl⟩, trivial⟩
 | r20 =>
  exact Mach.en_head (bK := Z3 1) (M := ZB a0 a1 a2 a3 N) (cd := 1000000) (cm := 0) (y := (.h1m0 (0) (0) (0) : Zt)) (fu := 4000) (orc := (Zi [] [] [] [] [(0, (Zsb (a0)    1))])) (live := [2]) (tv := [some (vp 2 0), some (v0), some (Value.agg #[v0, v0, v0]), some (v0)]) (bl := [some (.cells [vi a1, vi a2, vi a3] 70)]) (ob := [(dP (Zml #[vi a0] (a0)    1), true)]) rfl rfl (show Zx (Z3 1).2 = [] from rfl) (by kernel_rfl) (Za (Zf (Zsc #[vi a0] (a0)   N c0  1 rfl (by decide) (by decide))) Zd) rfl (by decide) (by rfl) ⟨rr, ⟨rr, ⟨⟨Eq.trans (show (Value.agg #[vi ((0 : Nat) : Int), vi ((0 : Nat) : Int), vi ((0 : Nat) : Int)] : Value) = Value.agg #[v0, v0, v0] from (Zda (Zc (congrArg (Value.int .i64) (by first | rfl | omega)) (Zc (congrArg (Value.int .i64) (by first | rfl | omega)) (Zc (congrArg (Value.int .i64) (by first | rfl | omega)) rfl))))) (by rfl), by rfl⟩, ⟨rr, trivial⟩⟩⟩⟩ ⟨⟨rfl, ⟨[], by rfl⟩, by rfl⟩, trivial⟩

theorem ZpH (a0 a1 a2 a3 : Int) (N : Nat) (r : ZaD) (h : ZG a0 a1 a2 a3 N = some r) : LSpec Try.prog 41 #[Value.agg #[vi a0, vi a1, vi a2, vi a3]] [] (ZnH a0 a1 a2 a3 r) (Zmm a0 a1 a2 a3 r) :=
 Mach.spec Zao (ZB a0 a1 a2 a3 N) Try.func41 (by kernel_rfl) (by kernel_rfl) (fun x => by cases x <;> exact ZN _ rfl) (fun r => by cases r <;> exact ZN _ rfl) (fun x => by
  cases x with
  | h1m0 _ _ _ => exact fun _ => (show ¬ (1 ∈ Zx (Z3 1).2) from by decide +kernel)
  | h1m1 _ _ _ => exact fun _ => (show ¬ (1 ∈ Zx (Z3 1).2) from by decide +kernel)
  | h1m2 _ _ _ => exact fun _ => (show ¬ (1 ∈ Zx (Z3 1).2) from by decide +kernel)
  | h1m3 _ _ _ => exact fun _ => (show ¬ (1 ∈ Zx (Z3 1).2) from by decide +kernel)
  ) (fun x => (show (ZB a0 a1 a2 a3 N).Ok Try.prog Zr x (Zc8 a0 a1 a2 a3 N x) from by
  cases x with
  | h1m0 v1 v2 v3 => exact ZoD a0 a1 a2 a3 v1 v2 v3 N
  | h1m1 v1 v2 v3 => exact ZoE a0 a1 a2 a3 v1 v2 v3 N
  | h1m2 v1 v2 v3 => exact ZoF a0 a1 a2 a3 v1 v2 v3 N
  | h1m3 v1 v2 v3 => exact ZoG a0 a1 a2 a3 v1 v2 v3 N
  )) (Zra a0 a1 a2 a3 N) (n := N) h

noncomputable def Zaa (a0 a1 a2 a3 w0 : Int) (n : Nat) : Zak := .call [] (vi w0) [] 0
def ZU (A : Array Value) (a0 a1 a2 a3 w0 : Int) (n : Nat) : Prop := Zw Try.prog 41 A [] (vi w0) [] n 0

theorem Zab (A : Array Value) (a0 a1 a2 a3 w0 : Int) (N : Nat) (h : ZG a0 a1 a2 a3 N = some (.r0 w0)) (n : Nat) (hA : A = #[Value.agg #[vi a0, vi a1, vi a2, vi a3]]) (hnd : ([] : List Nat).Nodup) (hlt : ∀ k ∈ ([] : List Nat), k < n) : ZU A a0 a1 a2 a3 w0  n :=
 Z0 hA (LSpec.callL (show LSpec Try.prog 41 #[Value.agg #[vi a0, vi a1, vi a2, vi a3]] [] (vi w0) [] from ZpH a0 a1 a2 a3 N _ h) [] n [] rfl hnd hlt (show 0 ≤ 0 from by decide) (show ∀ j ∈ ([] : List Nat), j < 0 from by decide) (by rfl) trivial (by rfl) trivial trivial rfl rfl rfl rfl rfl)

noncomputable def Zio (a0 a1 a2 a3 : Int) (o4 : Nat) (L5 : List R_iiii) (n6 n7 : Nat) (a8 a9 a10 : Int) (O1 : Obj) : Zae → Value
 | .r0 w2 => vi w2
noncomputable def Zh4 (a0 a1 a2 a3 : Int) (o4 : Nat) (L5 : List R_iiii) (n6 n7 : Nat) (a8 a9 a10 : Int) (O1 : Obj) : Zae → List (Option AObj)
 | .r0 w2 => [some (.cells [vn, vs 1 o4 n6 n7, vn, vn, vn, vi a8, vi a9, vi a10] 50), some (.ro O1)]

theorem ZlN (a0 a1 a2 a3 : Int) (o4 : Nat) (L5 : List R_iiii) (n6 n7 : Nat) (a8 a9 a10 : Int) (O1 : Obj) (F1 : Zs O1 o4 L5) (N : Nat) : Fx Try.prog Zr Try.f34 [.cells [vn, vs 1 o4 n6 n7, vn, vn, vn, vi a8, vi a9, vi a10] 50, .ro O1] #[vp 0 0, Value.agg #[vi a0, vi a1, vi a2, vi a3]] (Zio a0 a1 a2 a3 o4 L5 n6 n7 a8 a9 a10 O1) (Zh4 a0 a1 a2 a3 o4 L5 n6 n7 a8 a9 a10 O1) (Zc6 a0 a1 a2 a3 L5 n6 n7 a8 a9 a10 N) := by
 unfold Zc6
 refine Zm (fun g0 => ?_) (fun g0 => ?_)
 ·
  refine Za4 (fun z1 c1 => ?_)
  cases z1 with
  | r0 y1_0 =>
   refine Zm (fun g2 => ?_) (fun g2 => ?_)
   ·
    exact Zk (r := (.r0 ((120 : Int)) : Zae)) (fu := 4000) (orc := (Zi [(0, true), (2, true)] [] [] [] [(0, (Zaa (a0) (a1) (a2) (a3)  y1_0  3))])) (live := [0, 1]) (u := vi (120 : Int)) (bl := [some (.cells [vn, vs 1 o4 n6 n7, vn, vn, vn, vi a8, vi a9, vi a10] 50), some (.ro O1)]) (ob := [((y1_0 != (0 : Int)), true), (dP (ZU #[Value.agg #[vi a0, vi a1, vi a2, vi a3]] (a0) (a1) (a2) (a3)  y1_0  3), true), ((a0 == (15 : Int)), true)]) (by kernel_rfl) (oD <| Za (Zf (Zab #[Value.agg #[vi a0, vi a1, vi a2, vi a3]] (a0) (a1) (a2) (a3)  y1_0 N c1  3 rfl (by decide) (by decide))) <| oT Zd) rfl (by decide) (by rfl) rr ⟨⟨rfl, ⟨[], by rfl⟩, by rfl⟩, ⟨rfl, trivial⟩⟩
   ·
    exact Zk (r := (.r0 ((0 : Int)) : Zae)) (fu := 4000) (orc := (Zi [(0, true), (2, false)] [] [] [] [(0, (Zaa (a0) (a1) (a2) (a3)  y1_0  3))])) (live := [0, 1]) (u := v0) (bl := [some (.cells [vn, vs 1 o4 n6 n7, vn, vn, vn, vi a8, vi a9, vi a10] 50), some (.ro O1)]) (ob := [((y1_0 != (0 : Int)), false), (dP (ZU #[Value.agg #[vi a0, vi a1, vi a2, vi a3]] (a0) (a1) (a2) (a3)  y1_0  3), true), ((a0 == (15 : Int)), true)]) (by kernel_rfl) (oE <| Za (Zf (Zab #[Value.agg #[vi a0, vi a1, vi a2, vi a3]] (a0) (a1) (a2) (a3)  y1_0 N c1  3 rfl (by decide) (by decide))) <| oT Zd) rfl (by decide) (by rfl) rr ⟨⟨rfl, ⟨[], by rfl⟩, by rfl⟩, ⟨rfl, trivial⟩⟩
 ·
  refine Zm (fun g1 => ?_) (fun g1 => ?_)
  ·
   exact Zk (r := (.r0 ((120 : Int)) : Zae)) (fu := 4000) (orc := (Zi [(0, false), (1, true)] [] [] [] [])) (live := [0, 1]) (u := vi (120 : Int)) (bl := [some (.cells [vn, vs 1 o4 n6 n7, vn, vn, vn, vi a8, vi a9, vi a10] 50), some (.ro O1)]) (ob := [((a0 == (16 : Int)), true), ((a0 == (15 : Int)), false)]) (by kernel_rfl) (oT <| oF Zd) rfl (by decide) (by rfl) rr ⟨⟨rfl, ⟨[], by rfl⟩, by rfl⟩, ⟨rfl, trivial⟩⟩
  ·
   refine Zm (fun g2 => ?_) (fun g2 => ?_)
   ·
    exact Zk (r := (.r0 ((120 : Int)) : Zae)) (fu := 4000) (orc := (Zi [(0, false), (1, false), (2, true)] [] [] [] [])) (live := [0, 1]) (u := vi (120 : Int)) (bl := [some (.cells [vn, vs 1 o4 n6 n7, vn, vn, vn, vi a8, vi a9, vi a10] 50), some (.ro O1)]) (ob := [((a0 == (17 : Int)), true), ((a0 == (16 : Int)), false), ((a0 == (15 : Int)), false)]) (by kernel_rfl) (oT <| oF <| oF Zd) rfl (by decide) (by rfl) rr ⟨⟨rfl, ⟨[], by rfl⟩, by rfl⟩, ⟨rfl, trivial⟩⟩
   ·
    refine Zm (fun g3 => ?_) (fun g3 => ?_)
    ·
     exact Zk (r := (.r0 ((120 : Int)) : Zae)) (fu := 4000) (orc := (Zi [(0, false), (1, false), (2, false), (3, true)] [] [] [] [])) (live := [0, 1]) (u := vi (120 : Int)) (bl := [some (.cells [vn, vs 1 o4 n6 n7, vn, vn, vn, vi a8, vi a9, vi a10] 50), some (.ro O1)]) (ob := [((a0 == (18 : Int)), true), ((a0 == (17 : Int)), false), ((a0 == (16 : Int)), false), ((a0 == (15 : Int)), false)]) (by kernel_rfl) (oT <| oF <| oF <| oF Zd) rfl (by decide) (by rfl) rr ⟨⟨rfl, ⟨[], by rfl⟩, by rfl⟩, ⟨rfl, trivial⟩⟩
    ·
     by_cases g4 : a0 = (20 : Int)
     ·
      refine Za4 (fun z5 c5 => ?_)
      cases z5 with
      | r0 y5_0 =>
       refine Zm (fun g6 => ?_) (fun g6 => ?_)
       ·
        exact Zk (r := (.r0 ((120 : Int)) : Zae)) (fu := 4000) (orc := (Zi [(0, false), (1, false), (2, false), (3, false), (4, true), (6, true)] [] [] [] [(0, (Zaa (a0) (a1) (a2) (a3)  y5_0  3))])) (live := [0, 1]) (u := vi (120 : Int)) (bl := [some (.cells [vn, vs 1 o4 n6 n7, vn, vn, vn, vi a8, vi a9, vi a10] 50), some (.ro O1)]) (ob := [((y5_0 != (0 : Int)), true), (dP (ZU #[Value.agg #[vi a0, vi a1, vi a2, vi a3]] (a0) (a1) (a2) (a3)  y5_0  3), true), ((a0 == (20 : Int)), true), ((a0 == (18 : Int)), false), ((a0 == (17 : Int)), false), ((a0 == (16 : Int)), false), ((a0 == (15 : Int)), false)]) (by kernel_rfl) (oD <| Za (Zf (Zab #[Value.agg #[vi a0, vi a1, vi a2, vi a3]] (a0) (a1) (a2) (a3)  y5_0 N c5  3 rfl (by decide) (by decide))) <| oT <| oF <| oF <| oF <| oF Zd) rfl (by decide) (by rfl) rr ⟨⟨rfl, ⟨[], by rfl⟩, by rfl⟩, ⟨rfl, trivial⟩⟩
       ·
        exact Zk (r := (.r0 ((0 : Int)) : Zae)) (fu := 4000) (orc := (Zi [(0, false), (1, false), (2, false), (3, false), (4, true), (6, false)] [] [] [] [(0, (Zaa (a0) (a1) (a2) (a3)  y5_0  3))])) (live := [0, 1]) (u := v0) (bl := [some (.cells [vn, vs 1 o4 n6 n7, vn, vn, vn, vi a8, vi a9, vi a10] 50), some (.ro O1)]) (ob := [((y5_0 != (0 : Int)), false), (dP (ZU #[Value.agg #[vi a0, vi a1, vi a2, vi a3]] (a0) (a1) (a2) (a3)  y5_0  3), true), ((a0 == (20 : Int)), true), ((a0 == (18 : Int)), false), ((a0 == (17 : Int)), false), ((a0 == (16 : Int)), false), ((a0 == (15 : Int)), false)]) (by kernel_rfl) (oE <| Za (Zf (Zab #[Value.agg #[vi a0, vi a1, vi a2, vi a3]] (a0) (a1) (a2) (a3)  y5_0 N c5  3 rfl (by decide) (by decide))) <| oT <| oF <| oF <| oF <| oF Zd) rfl (by decide) (by rfl) rr ⟨⟨rfl, ⟨[], by rfl⟩, by rfl⟩, ⟨rfl, trivial⟩⟩
     ·
      refine Za4 (fun z5 c5 => ?_)
      cases z5 with
      | r0 y5_0 =>
       refine Zm (fun g6 => ?_) (fun g6 => ?_)
       ·
        exact Zk (r := (.r0 ((120 : Int)) : Zae)) (fu := 4000) (orc := (Zi [(0, false), (1, false), (2, false), (3, false), (4, false), (5, true)] [] [] [] [(0, (Zaa (a0) (a1) (a2) (a3)  y5_0  3))])) (live := [0, 1]) (u := vi (120 : Int)) (bl := [some (.cells [vn, vs 1 o4 n6 n7, vn, vn, vn, vi a8, vi a9, vi a10] 50), some (.ro O1)]) (ob := [((y5_0 != (0 : Int)), true), (dP (ZU #[Value.agg #[vi a0, vi a1, vi a2, vi a3]] (a0) (a1) (a2) (a3)  y5_0  3), true), ((a0 == (20 : Int)), false), ((a0 == (18 : Int)), false), ((a0 == (17 : Int)), false), ((a0 == (16 : Int)), false), ((a0 == (15 : Int)), false)]) (by kernel_rfl) (oD <| Za (Zf (Zab #[Value.agg #[vi a0, vi a1, vi a2, vi a3]] (a0) (a1) (a2) (a3)  y5_0 N c5  3 rfl (by decide) (by decide))) <| oF <| oF <| oF <| oF <| oF Zd) rfl (by decide) (by rfl) rr ⟨⟨rfl, ⟨[], by rfl⟩, by rfl⟩, ⟨rfl, trivial⟩⟩
       ·
        exact Zk (r := (.r0 ((0 : Int)) : Zae)) (fu := 4000) (orc := (Zi [(0, false), (1, false), (2, false), (3, false), (4, false), (5, false)] [] [] [] [(0, (Zaa (a0) (a1) (a2) (a3)  y5_0  3))])) (live := [0, 1]) (u := v0) (bl := [some (.cells [vn, vs 1 o4 n6 n7, vn, vn, vn, vi a8, vi a9, vi a10] 50), some (.ro O1)]) (ob := [((y5_0 != (0 : Int)), false), (dP (ZU #[Value.agg #[vi a0, vi a1, vi a2, vi a3]] (a0) (a1) (a2) (a3)  y5_0  3), true), ((a0 == (20 : Int)), false), ((a0 == (18 : Int)), false), ((a0 == (17 : Int)), false), ((a0 == (16 : Int)), false), ((a0 == (15 : Int)), false)]) (by kernel_rfl) (oE <| Za (Zf (Zab #[Value.agg #[vi a0, vi a1, vi a2, vi a3]] (a0) (a1) (a2) (a3)  y5_0 N c5  3 rfl (by decide) (by decide))) <| oF <| oF <| oF <| oF <| oF Zd) rfl (by decide) (by rfl) rr ⟨⟨rfl, ⟨[], by rfl⟩, by rfl⟩, ⟨rfl, trivial⟩⟩

theorem ZkA (a0 a1 a2 a3 : Int) (o4 : Nat) (L5 : List R_iiii) (n6 n7 : Nat) (a8 a9 a10 : Int) (O1 : Obj) (F1 : Zs O1 o4 L5) (N : Nat) (r : Zae) (h : Zc6 a0 a1 a2 a3 L5 n6 n7 a8 a9 a10 N = some r) : LSpec Try.prog 34 #[vp 0 0, Value.agg #[vi a0, vi a1, vi a2, vi a3]] [.cells [vn, vs 1 o4 n6 n7, vn, vn, vn, vi a8, vi a9, vi a10] 50, .ro O1] (Zio a0 a1 a2 a3 o4 L5 n6 n7 a8 a9 a10 O1 r) (Zh4 a0 a1 a2 a3 o4 L5 n6 n7 a8 a9 a10 O1 r) :=
 ZaB Zao Try.func34 (by kernel_rfl) (by kernel_rfl) (fun r => by cases r <;> exact ZN _ rfl) (ZlN a0 a1 a2 a3 o4 L5 n6 n7 a8 a9 a10 O1 F1 N) h

noncomputable def ZfV (a0 a1 a2 a3 : Int) (o4 : Nat) (L5 : List R_iiii) (n6 n7 : Nat) (a8 a9 a10 : Int) (O1 : Obj) (w2 : Int) (k0 k1 n : Nat) : Zak := .call [(k0, .cells [vn, vs k1 o4 n6 n7, vn, vn, vn, vi a8, vi a9, vi a10] 50), (k1, .ro O1)] (vi w2) [] 0
def Ze8 (A : Array Value) (a0 a1 a2 a3 : Int) (o4 : Nat) (L5 : List R_iiii) (n6 n7 : Nat) (a8 a9 a10 : Int) (O1 : Obj) (w2 : Int) (k0 k1 n : Nat) : Prop := Zw Try.prog 34 A [(k0, .cells [vn, vs k1 o4 n6 n7, vn, vn, vn, vi a8, vi a9, vi a10] 50), (k1, .ro O1)] (vi w2) [] n 0

theorem ZfW (A : Array Value) (a0 a1 a2 a3 : Int) (o4 : Nat) (L5 : List R_iiii) (n6 n7 : Nat) (a8 a9 a10 : Int) (O1 : Obj) (F1 : Zs O1 o4 L5) (w2 : Int) (N : Nat) (h : Zc6 a0 a1 a2 a3 L5 n6 n7 a8 a9 a10 N = some (.r0 w2)) (k0 k1 n : Nat) (hA : A = #[vp k0 0, Value.agg #[vi a0, vi a1, vi a2, vi a3]]) (hnd : ([k0, k1] : List Nat).Nodup) (hlt : ∀ k ∈ ([k0, k1] : List Nat), k < n) : Ze8 A a0 a1 a2 a3 o4 L5 n6 n7 a8 a9 a10 O1 w2 k0 k1 n :=
 Z0 hA (LSpec.callL (show LSpec Try.prog 34 #[vp 0 0, Value.agg #[vi a0, vi a1, vi a2, vi a3]] [.cells [vn, vs 1 o4 n6 n7, vn, vn, vn, vi a8, vi a9, vi a10] 50, .ro O1] (vi w2) [some (.cells [vn, vs 1 o4 n6 n7, vn, vn, vn, vi a8, vi a9, vi a10] 50), some (.ro O1)] from ZkA a0 a1 a2 a3 o4 L5 n6 n7 a8 a9 a10 O1 F1 N _ h) [k0, k1] n [] rfl hnd hlt (show 2 ≤ 2 from by decide) (show ∀ j ∈ ([] : List Nat), j < 2 from by decide) (by rfl) ⟨rfl, ⟨rfl, trivial⟩⟩ (by rfl) ⟨rfl, ⟨rfl, trivial⟩⟩ ⟨.inr rfl, ⟨.inr rfl, trivial⟩⟩ rfl rfl rfl (Zc (Zn rfl rfl) (Zc (Zn rfl rfl) rfl)) rfl)

noncomputable def Zh5 (o0 : Nat) (L1 : List R_iiii) (n2 n3 : Nat) (a4 a5 a6 : Int) (O1 : Obj) : ZcB → Value
 | .r0 => Value.agg #[vi (-1 : Int), v0]
noncomputable def Zht (o0 : Nat) (L1 : List R_iiii) (n2 n3 : Nat) (a4 a5 a6 : Int) (O1 : Obj) : ZcB → List (Option AObj)
 | .r0 => [some (.cells [vn, vs 1 o0 n2 n3, vn, vn, vn, vi a4, vi a5, vi a6] 50), some (.ro O1)]

theorem Zlj (o0 : Nat) (L1 : List R_iiii) (n2 n3 : Nat) (a4 a5 a6 : Int) (O1 : Obj) (F1 : Zs O1 o0 L1) (N : Nat) : Fx Try.prog Zr Try.f43 [.cells [vn, vs 1 o0 n2 n3, vn, vn, vn, vi a4, vi a5, vi a6] 50, .ro O1] #[vp 0 0] (Zh5 o0 L1 n2 n3 a4 a5 a6 O1) (Zht o0 L1 n2 n3 a4 a5 a6 O1) (ZdL L1 n2 n3 a4 a5 a6 N) := by
 unfold ZdL
 exact Zk (r := (.r0 : ZcB)) (fu := 4000) (orc := (Zi [] [] [] [] [])) (live := [0, 1]) (u := Value.agg #[vi (-1 : Int), v0]) (bl := [some (.cells [vn, vs 1 o0 n2 n3, vn, vn, vn, vi a4, vi a5, vi a6] 50), some (.ro O1)]) (ob := []) (by kernel_rfl) Zd rfl (by decide) (by rfl) rr ⟨⟨rfl, ⟨[], by rfl⟩, by rfl⟩, ⟨rfl, trivial⟩⟩

theorem ZjS (o0 : Nat) (L1 : List R_iiii) (n2 n3 : Nat) (a4 a5 a6 : Int) (O1 : Obj) (F1 : Zs O1 o0 L1) (N : Nat) (r : ZcB) (h : ZdL L1 n2 n3 a4 a5 a6 N = some r) : LSpec Try.prog 43 #[vp 0 0] [.cells [vn, vs 1 o0 n2 n3, vn, vn, vn, vi a4, vi a5, vi a6] 50, .ro O1] (Zh5 o0 L1 n2 n3 a4 a5 a6 O1 r) (Zht o0 L1 n2 n3 a4 a5 a6 O1 r) :=
 ZaB Zao Try.func43 (by kernel_rfl) (by kernel_rfl) (fun r => by cases r <;> exact ZN _ rfl) (Zlj o0 L1 n2 n3 a4 a5 a6 O1 F1 N) h

noncomputable def Zhu (o0 : Nat) (L1 : List R_iiii) (n2 n3 : Nat) (a4 a5 a6 : Int) (O1 : Obj) (k0 k1 n : Nat) : Zak := .call [(k0, .cells [vn, vs k1 o0 n2 n3, vn, vn, vn, vi a4, vi a5, vi a6] 50), (k1, .ro O1)] (Value.agg #[vi (-1 : Int), v0]) [] 0
def Zf5 (A : Array Value) (o0 : Nat) (L1 : List R_iiii) (n2 n3 : Nat) (a4 a5 a6 : Int) (O1 : Obj) (k0 k1 n : Nat) : Prop := Zw Try.prog 43 A [(k0, .cells [vn, vs k1 o0 n2 n3, vn, vn, vn, vi a4, vi a5, vi a6] 50), (k1, .ro O1)] (Value.agg #[vi (-1 : Int), v0]) [] n 0

theorem Zhv (A : Array Value) (o0 : Nat) (L1 : List R_iiii) (n2 n3 : Nat) (a4 a5 a6 : Int) (O1 : Obj) (F1 : Zs O1 o0 L1) (N : Nat) (h : ZdL L1 n2 n3 a4 a5 a6 N = some (.r0)) (k0 k1 n : Nat) (hA : A = #[vp k0 0]) (hnd : ([k0, k1] : List Nat).Nodup) (hlt : ∀ k ∈ ([k0, k1] : List Nat), k < n) : Zf5 A o0 L1 n2 n3 a4 a5 a6 O1 k0 k1 n :=
 Z0 hA (LSpec.callL (show LSpec Try.prog 43 #[vp 0 0] [.cells [vn, vs 1 o0 n2 n3, vn, vn, vn, vi a4, vi a5, vi a6] 50, .ro O1] (Value.agg #[vi (-1 : Int), v0]) [some (.cells [vn, vs 1 o0 n2 n3, vn, vn, vn, vi a4, vi a5, vi a6] 50), some (.ro O1)] from ZjS o0 L1 n2 n3 a4 a5 a6 O1 F1 N _ h) [k0, k1] n [] rfl hnd hlt (show 2 ≤ 2 from by decide) (show ∀ j ∈ ([] : List Nat), j < 2 from by decide) (by rfl) ⟨rfl, ⟨rfl, trivial⟩⟩ (by rfl) ⟨rfl, ⟨rfl, trivial⟩⟩ ⟨.inr rfl, ⟨.inr rfl, trivial⟩⟩ rfl rfl rfl (Zc (Zn rfl rfl) (Zc (Zn rfl rfl) rfl)) rfl)

noncomputable def Zj4 (a0 a1 : Int) (o2 : Nat) (L3 : List R_iiii) (n4 n5 : Nat) (a6 a7 a8 : Int) (O1 : Obj) : Zco → Value
 | .r0 => vtt
 | .r1 => vtt
noncomputable def ZiE (a0 a1 : Int) (o2 : Nat) (L3 : List R_iiii) (n4 n5 : Nat) (a6 a7 a8 : Int) (O1 : Obj) : Zco → List (Option AObj)
 | .r0 => [some (.cells [vs 2 0 1 1, vs 1 o2 n4 n5, vs 3 0 1 1, vs 4 0 1 1, vs 5 0 1 1, vi (if (1 : Int) > a6 then (1 : Int) else a6), vi a7, vi a8] 50), some (.ro O1), some (.cells (Zb Ze ([(⟨a0, (-1 : Int)⟩ : R_ii)] : List R_ii)) 76), some (.cells (Zb Ze ([(⟨(-1 : Int), (0 : Int)⟩ : R_ii)] : List R_ii)) 63), some (.cells (Zb eI [(-1 : Int)]) 3), some (.cells (Zb eI ([a0] : List Int)) 3)]
 | .r1 => [some (.cells [vn, vs 1 o2 n4 n5, vs 2 0 1 1, vs 3 0 1 1, vn, vi a6, vi a7, vi a8] 50), some (.ro O1), some (.cells (Zb Ze ([(⟨(-1 : Int), (0 : Int)⟩ : R_ii)] : List R_ii)) 63), some (.cells (Zb eI [(-1 : Int)]) 3)]

theorem ZnI (a0 a1 : Int) (o2 : Nat) (L3 : List R_iiii) (n4 n5 : Nat) (a6 a7 a8 : Int) (O1 : Obj) (F1 : Zs O1 o2 L3) (N : Nat) : Fx Try.prog Zr Try.f35 [.cells [vn, vs 1 o2 n4 n5, vn, vn, vn, vi a6, vi a7, vi a8] 50, .ro O1] #[vp 0 0, vi a0, vi a1] (Zj4 a0 a1 o2 L3 n4 n5 a6 a7 a8 O1) (ZiE a0 a1 o2 L3 n4 n5 a6 a7 a8 O1) (ZdQ a0 a1 L3 n4 n5 a6 a7 a8 N) := by
 unfold ZdQ
 refine Za4 (fun z0 c0 => ?_)
 cases z0 with
 | r0 =>
  refine Zm (fun g1 => ?_) (fun g1 => ?_)
  ·
   exact Zk (r := (.r0 : Zco)) (fu := 4000) (orc := (Zi [(0, true)] [] [] [] [(0, (Zhu (o2) (L3) (n4) (n5) (a6) (a7) (a8) O1  0 1 2))])) (live := [0, 1, 10, 3, 5, 7]) (u := vtt) (bl := [some (.cells [vs 10 0 1 1, vs 1 o2 n4 n5, vs 3 0 1 1, vs 5 0 1 1, vs 7 0 1 1, vi (if (1 : Int) > a6 then (1 : Int) else a6), vi a7, vi a8] 50), some (.ro O1), some (.cells [vi a0, vi (-1 : Int)] 76), some (.cells [vi (-1 : Int), v0] 63), some (.cells [vi (-1 : Int)] 3), some (.cells [vi a0] 3)]) (ob := [((a1 == (15 : Int)), true), (dP (Zf5 #[vp 0 0] (o2) (L3) (n4) (n5) (a6) (a7) (a8) O1  0 1 2), true), (dS [vn, vs 1 o2 n4 n5, vn, vn, vn, vi a6, vi a7, vi a8], true), (dS O1, true)]) (by kernel_rfl) (oT <| Za (Zf (Zhv #[vp 0 0] (o2) (L3) (n4) (n5) (a6) (a7) (a8) O1 F1  N c0 0 1 2 rfl (by decide) (by decide))) <| Za (Zf (Zc rfl (Zc rfl (Zc rfl (Zc rfl (Zc rfl (Zc rfl (Zc rfl (Zc rfl rfl))))))))) <| oR Zd) rfl (by decide) (by rfl) rr ⟨⟨rfl, ⟨[], by rfl⟩, by rfl⟩, ⟨rfl, ⟨(ZbO (E := Ze) _ (L := ([(⟨a0, (-1 : Int)⟩ : R_ii)] : List R_ii)) _ (show ([vi a0, vi (-1 : Int)] : List Value) = Zb Ze ([(⟨a0, (-1 : Int)⟩ : R_ii)] : List R_ii) from rfl)), ⟨(ZbO (E := Ze) _ (L := ([(⟨(-1 : Int), (0 : Int)⟩ : R_ii)] : List R_ii)) _ (show ([vi (-1 : Int), v0] : List Value) = Zb Ze ([(⟨(-1 : Int), (0 : Int)⟩ : R_ii)] : List R_ii) from rfl)), ⟨(ZbO (E := eI) _ (L := [(-1 : Int)]) _ (show ([vi (-1 : Int)] : List Value) = Zb eI [(-1 : Int)] from rfl)), ⟨(ZbO (E := eI) _ (L := ([a0] : List Int)) _ (show ([vi a0] : List Value) = Zb eI ([a0] : List Int) from rfl)), trivial⟩⟩⟩⟩⟩⟩
  ·
   refine Zm (fun g2 => ?_) (fun g2 => ?_)
   ·
    exact Za6
   ·
    refine Zm (fun g3 => ?_) (fun g3 => ?_)
    ·
     exact Za6
    ·
     exact Zk (r := (.r1 : Zco)) (fu := 4000) (orc := (Zi [(0, false), (1, false), (2, false)] [] [] [] [(0, (Zhu (o2) (L3) (n4) (n5) (a6) (a7) (a8) O1  0 1 2))])) (live := [0, 1, 3, 5]) (u := vtt) (bl := [some (.cells [vn, vs 1 o2 n4 n5, vs 3 0 1 1, vs 5 0 1 1, vn, vi a6, vi a7, vi a8] 50), some (.ro O1), some (.cells [vi (-1 : Int), v0] 63), some (.cells [vi (-1 : Int)] 3)]) (ob := [((a1 == (17 : Int)), false), ((a1 == (16 : Int)), false), ((a1 == (15 : Int)), false), (dP (Zf5 #[vp 0 0] (o2) (L3) (n4) (n5) (a6) (a7) (a8) O1  0 1 2), true), (dS [vn, vs 1 o2 n4 n5, vn, vn, vn, vi a6, vi a7, vi a8], true), (dS O1, true)]) (by kernel_rfl) (oF <| oF <| oF <| Za (Zf (Zhv #[vp 0 0] (o2) (L3) (n4) (n5) (a6) (a7) (a8) O1 F1  N c0 0 1 2 rfl (by decide) (by decide))) <| Za (Zf (Zc rfl (Zc rfl (Zc rfl (Zc rfl (Zc rfl (Zc rfl (Zc rfl (Zc rfl rfl))))))))) <| oR Zd) rfl (by decide) (by rfl) rr ⟨⟨rfl, ⟨[], by rfl⟩, by rfl⟩, ⟨rfl, ⟨(ZbO (E := Ze) _ (L := ([(⟨(-1 : Int), (0 : Int)⟩ : R_ii)] : List R_ii)) _ (show ([vi (-1 : Int), v0] : List Value) = Zb Ze ([(⟨(-1 : Int), (0 : Int)⟩ : R_ii)] : List R_ii) from rfl)), ⟨(ZbO (E := eI) _ (L := [(-1 : Int)]) _ (show ([vi (-1 : Int)] : List Value) = Zb eI [(-1 : Int)] from rfl)), trivial⟩⟩⟩⟩

theorem Zhw (a0 a1 : Int) (o2 : Nat) (L3 : List R_iiii) (n4 n5 : Nat) (a6 a7 a8 : Int) (O1 : Obj) (F1 : Zs O1 o2 L3) (N : Nat) (r : Zco) (h : ZdQ a0 a1 L3 n4 n5 a6 a7 a8 N = some r) : LSpec Try.prog 35 #[vp 0 0, vi a0, vi a1] [.cells [vn, vs 1 o2 n4 n5, vn, vn, vn, vi a6, vi a7, vi a8] 50, .ro O1] (Zj4 a0 a1 o2 L3 n4 n5 a6 a7 a8 O1 r) (ZiE a0 a1 o2 L3 n4 n5 a6 a7 a8 O1 r) :=
 ZaB Zao Try.func35 (by kernel_rfl) (by kernel_rfl) (fun r => by cases r <;> exact ZN _ rfl) (ZnI a0 a1 o2 L3 n4 n5 a6 a7 a8 O1 F1 N) h

noncomputable def ZoH (a0 a1 : Int) (o2 : Nat) (L3 : List R_iiii) (n4 n5 : Nat) (a6 a7 a8 : Int) (O1 : Obj) (k0 k1 n : Nat) : Zak := .call [(k0, .cells [vn, vs k1 o2 n4 n5, vn, vn, vn, vi a6, vi a7, vi a8] 50), (k1, .ro O1)] (vtt) [(k0, some (.cells [vs n 0 1 1, vs k1 o2 n4 n5, vs (n + 1) 0 1 1, vs (n + 2) 0 1 1, vs (n + 3) 0 1 1, vi (if (1 : Int) > a6 then (1 : Int) else a6), vi a7, vi a8] 50)), (n, some (.cells (Zb Ze ([(⟨a0, (-1 : Int)⟩ : R_ii)] : List R_ii)) 76)), ((n + 1), some (.cells (Zb Ze ([(⟨(-1 : Int), (0 : Int)⟩ : R_ii)] : List R_ii)) 63)), ((n + 2), some (.cells (Zb eI [(-1 : Int)]) 3)), ((n + 3), some (.cells (Zb eI ([a0] : List Int)) 3))] 4
def ZiF (A : Array Value) (a0 a1 : Int) (o2 : Nat) (L3 : List R_iiii) (n4 n5 : Nat) (a6 a7 a8 : Int) (O1 : Obj) (k0 k1 n : Nat) : Prop := Zw Try.prog 35 A [(k0, .cells [vn, vs k1 o2 n4 n5, vn, vn, vn, vi a6, vi a7, vi a8] 50), (k1, .ro O1)] (vtt) [(k0, some (.cells [vs n 0 1 1, vs k1 o2 n4 n5, vs (n + 1) 0 1 1, vs (n + 2) 0 1 1, vs (n + 3) 0 1 1, vi (if (1 : Int) > a6 then (1 : Int) else a6), vi a7, vi a8] 50)), (n, some (.cells (Zb Ze ([(⟨a0, (-1 : Int)⟩ : R_ii)] : List R_ii)) 76)), ((n + 1), some (.cells (Zb Ze ([(⟨(-1 : Int), (0 : Int)⟩ : R_ii)] : List R_ii)) 63)), ((n + 2), some (.cells (Zb eI [(-1 : Int)]) 3)), ((n + 3), some (.cells (Zb eI ([a0] : List Int)) 3))] n 4

theorem ZoI (A : Array Value) (a0 a1 : Int) (o2 : Nat) (L3 : List R_iiii) (n4 n5 : Nat) (a6 a7 a8 : Int) (O1 : Obj) (F1 : Zs O1 o2 L3) (N : Nat) (h : ZdQ a0 a1 L3 n4 n5 a6 a7 a8 N = some (.r0)) (k0 k1 n : Nat) (hA : A = #[vp k0 0, vi a0, vi a1]) (hnd : ([k0, k1] : List Nat).Nodup) (hlt : ∀ k ∈ ([k0, k1] : List Nat), k < n) : ZiF A a0 a1 o2 L3 n4 n5 a6 a7 a8 O1 k0 k1 n :=
 Z0 hA (LSpec.callL (show LSpec Try.prog 35 #[vp 0 0, vi a0, vi a1] [.cells [vn, vs 1 o2 n4 n5, vn, vn, vn, vi a6, vi a7, vi a8] 50, .ro O1] (vtt) [some (.cells [vs 2 0 1 1, vs 1 o2 n4 n5, vs 3 0 1 1, vs 4 0 1 1, vs 5 0 1 1, vi (if (1 : Int) > a6 then (1 : Int) else a6), vi a7, vi a8] 50), some (.ro O1), some (.cells (Zb Ze ([(⟨a0, (-1 : Int)⟩ : R_ii)] : List R_ii)) 76), some (.cells (Zb Ze ([(⟨(-1 : Int), (0 : Int)⟩ : R_ii)] : List R_ii)) 63), some (.cells (Zb eI [(-1 : Int)]) 3), some (.cells (Zb eI ([a0] : List Int)) 3)] from Zhw a0 a1 o2 L3 n4 n5 a6 a7 a8 O1 F1 N _ h) [k0, k1] n [0, 2, 3, 4, 5] rfl hnd hlt (show 2 ≤ 6 from by decide) (show ∀ j ∈ ([0, 2, 3, 4, 5] : List Nat), j < 6 from by decide) (by rfl) ⟨rfl, ⟨rfl, trivial⟩⟩ (by rfl) ⟨rfl, ⟨rfl, ⟨(Zp _ _ _), ⟨(Zp _ _ _), ⟨(Zp _ _ _), ⟨(Zp _ _ _), trivial⟩⟩⟩⟩⟩⟩ ⟨.inl (by decide), ⟨.inr rfl, ⟨(by decide), ⟨(by decide), ⟨(by decide), ⟨(by decide), trivial⟩⟩⟩⟩⟩⟩ rfl rfl rfl (Zc (Zn rfl rfl) (Zc (Zn rfl rfl) rfl)) (Zc (Zn rfl (Zac rfl)) (Zc (Zn rfl (Zac (Zy _ _ _))) (Zc (Zn rfl (Zac (Zy _ _ _))) (Zc (Zn rfl (Zac (Zy _ _ _))) (Zc (Zn rfl (Zac (Zy _ _ _))) rfl))))))

noncomputable def ZoJ (a0 a1 : Int) (o2 : Nat) (L3 : List R_iiii) (n4 n5 : Nat) (a6 a7 a8 : Int) (O1 : Obj) (k0 k1 n : Nat) : Zak := .call [(k0, .cells [vn, vs k1 o2 n4 n5, vn, vn, vn, vi a6, vi a7, vi a8] 50), (k1, .ro O1)] (vtt) [(k0, some (.cells [vn, vs k1 o2 n4 n5, vs n 0 1 1, vs (n + 1) 0 1 1, vn, vi a6, vi a7, vi a8] 50)), (n, some (.cells (Zb Ze ([(⟨(-1 : Int), (0 : Int)⟩ : R_ii)] : List R_ii)) 63)), ((n + 1), some (.cells (Zb eI [(-1 : Int)]) 3))] 2
def ZiG (A : Array Value) (a0 a1 : Int) (o2 : Nat) (L3 : List R_iiii) (n4 n5 : Nat) (a6 a7 a8 : Int) (O1 : Obj) (k0 k1 n : Nat) : Prop := Zw Try.prog 35 A [(k0, .cells [vn, vs k1 o2 n4 n5, vn, vn, vn, vi a6, vi a7, vi a8] 50), (k1, .ro O1)] (vtt) [(k0, some (.cells [vn, vs k1 o2 n4 n5, vs n 0 1 1, vs (n + 1) 0 1 1, vn, vi a6, vi a7, vi a8] 50)), (n, some (.cells (Zb Ze ([(⟨(-1 : Int), (0 : Int)⟩ : R_ii)] : List R_ii)) 63)), ((n + 1), some (.cells (Zb eI [(-1 : Int)]) 3))] n 2

theorem ZoK (A : Array Value) (a0 a1 : Int) (o2 : Nat) (L3 : List R_iiii) (n4 n5 : Nat) (a6 a7 a8 : Int) (O1 : Obj) (F1 : Zs O1 o2 L3) (N : Nat) (h : ZdQ a0 a1 L3 n4 n5 a6 a7 a8 N = some (.r1)) (k0 k1 n : Nat) (hA : A = #[vp k0 0, vi a0, vi a1]) (hnd : ([k0, k1] : List Nat).Nodup) (hlt : ∀ k ∈ ([k0, k1] : List Nat), k < n) : ZiG A a0 a1 o2 L3 n4 n5 a6 a7 a8 O1 k0 k1 n :=
 Z0 hA (LSpec.callL (show LSpec Try.prog 35 #[vp 0 0, vi a0, vi a1] [.cells [vn, vs 1 o2 n4 n5, vn, vn, vn, vi a6, vi a7, vi a8] 50, .ro O1] (vtt) [some (.cells [vn, vs 1 o2 n4 n5, vs 2 0 1 1, vs 3 0 1 1, vn, vi a6, vi a7, vi a8] 50), some (.ro O1), some (.cells (Zb Ze ([(⟨(-1 : Int), (0 : Int)⟩ : R_ii)] : List R_ii)) 63), some (.cells (Zb eI [(-1 : Int)]) 3)] from Zhw a0 a1 o2 L3 n4 n5 a6 a7 a8 O1 F1 N _ h) [k0, k1] n [0, 2, 3] rfl hnd hlt (show 2 ≤ 4 from by decide) (show ∀ j ∈ ([0, 2, 3] : List Nat), j < 4 from by decide) (by rfl) ⟨rfl, ⟨rfl, trivial⟩⟩ (by rfl) ⟨rfl, ⟨rfl, ⟨(Zp _ _ _), ⟨(Zp _ _ _), trivial⟩⟩⟩⟩ ⟨.inl (by decide), ⟨.inr rfl, ⟨(by decide), ⟨(by decide), trivial⟩⟩⟩⟩ rfl rfl rfl (Zc (Zn rfl rfl) (Zc (Zn rfl rfl) rfl)) (Zc (Zn rfl (Zac rfl)) (Zc (Zn rfl (Zac (Zy _ _ _))) (Zc (Zn rfl (Zac (Zy _ _ _))) rfl))))

noncomputable def Zmo (a0 a1 a2 a3 : Int) : Zcy → Value
 | .r0 w0 w1 => Value.tuple #[vi w0, Value.bool w1]
noncomputable def Zlk (a0 a1 a2 a3 : Int) : Zcy → List (Option AObj)
 | .r0 w0 w1 => []

theorem Zq1 (a0 a1 a2 a3 : Int) (N : Nat) : Fx Try.prog Zr Try.f46 [] #[Value.agg #[vi a0, vi a1, vi a2, vi a3]] (Zmo a0 a1 a2 a3) (Zlk a0 a1 a2 a3) (Zdm a0 a1 a2 a3 N) := by
 unfold Zdm
 refine Zm (fun g0 => ?_) (fun g0 => ?_)
 ·
  exact Zk (r := (.r0 (a1) (true) : Zcy)) (fu := 4000) (orc := (Zi [(0, true)] [] [] [] [])) (live := []) (u := Value.tuple #[vi a1, vT]) (bl := []) (ob := [((a0 == (8 : Int)), true)]) (by kernel_rfl) (oT Zd) rfl (by decide) (by rfl) rr trivial
 ·
  refine Zm (fun g1 => ?_) (fun g1 => ?_)
  ·
   exact Zk (r := (.r0 (a2) (true) : Zcy)) (fu := 4000) (orc := (Zi [(0, false), (1, true)] [] [] [] [])) (live := []) (u := Value.tuple #[vi a2, vT]) (bl := []) (ob := [((a0 == (9 : Int)), true), ((a0 == (8 : Int)), false)]) (by kernel_rfl) (oT <| oF Zd) rfl (by decide) (by rfl) rr trivial
  ·
   exact Zk (r := (.r0 ((0 : Int)) (false) : Zcy)) (fu := 4000) (orc := (Zi [(0, false), (1, false)] [] [] [] [])) (live := []) (u := Value.tuple #[v0, vf]) (bl := []) (ob := [((a0 == (9 : Int)), false), ((a0 == (8 : Int)), false)]) (by kernel_rfl) (oF <| oF Zd) rfl (by decide) (by rfl) rr trivial

theorem ZoL (a0 a1 a2 a3 : Int) (N : Nat) (r : Zcy) (h : Zdm a0 a1 a2 a3 N = some r) : LSpec Try.prog 46 #[Value.agg #[vi a0, vi a1, vi a2, vi a3]] [] (Zmo a0 a1 a2 a3 r) (Zlk a0 a1 a2 a3 r) :=
 ZaB Zao Try.func46 (by kernel_rfl) (by kernel_rfl) (fun r => by cases r <;> exact ZN _ rfl) (Zq1 a0 a1 a2 a3 N) h

noncomputable def Zbz (a0 a1 a2 a3 w0 : Int) (w1 : Bool) (n : Nat) : Zak := .call [] (Value.tuple #[vi w0, Value.bool w1]) [] 0
def Zbp (A : Array Value) (a0 a1 a2 a3 w0 : Int) (w1 : Bool) (n : Nat) : Prop := Zw Try.prog 46 A [] (Value.tuple #[vi w0, Value.bool w1]) [] n 0

theorem Zb0 (A : Array Value) (a0 a1 a2 a3 w0 : Int) (w1 : Bool) (N : Nat) (h : Zdm a0 a1 a2 a3 N = some (.r0 w0 w1)) (n : Nat) (hA : A = #[Value.agg #[vi a0, vi a1, vi a2, vi a3]]) (hnd : ([] : List Nat).Nodup) (hlt : ∀ k ∈ ([] : List Nat), k < n) : Zbp A a0 a1 a2 a3 w0 w1  n :=
 Z0 hA (LSpec.callL (show LSpec Try.prog 46 #[Value.agg #[vi a0, vi a1, vi a2, vi a3]] [] (Value.tuple #[vi w0, Value.bool w1]) [] from ZoL a0 a1 a2 a3 N _ h) [] n [] rfl hnd hlt (show 0 ≤ 0 from by decide) (show ∀ j ∈ ([] : List Nat), j < 0 from by decide) (by rfl) trivial (by rfl) trivial trivial rfl rfl rfl rfl rfl)

noncomputable def Zj5 (o0 : Nat) (L1 : List R_iiii) (n2 n3 : Nat) (L4 : List R_ii) (a5 a6 a7 : Int) (O1 : Obj) : ZaP → Value
 | .r0 w6 w7 => vtt
noncomputable def ZiH (o0 : Nat) (L1 : List R_iiii) (n2 n3 : Nat) (L4 : List R_ii) (a5 a6 a7 : Int) (O1 : Obj) : ZaP → List (Option AObj)
 | .r0 w6 w7 => [some (.cells [vn, vs 1 o0 n2 n3, vs 2 0 L4.length L4.length, vn, vn, vi a5, vi w6, vi w7] 50), some (.ro O1), some (.cells (Zb Ze L4) 63)]

def ZoM : Za0 → Nat
 | .h1m0 v6 => 1
noncomputable def ZpI (o0 : Nat) (L1 : List R_iiii) (n2 n3 : Nat) (L4 : List R_ii) (a5 a6 a7 : Int) (O1 : Obj) : Za0 → List (Nat × Value)
 | .h1m0 v6 => [(0, vp 0 0), (9, vs 1 o0 n2 n3), (10, vi (n2 : Int)), (11, vi (v6 : Int))]
noncomputable def ZpJ (o0 : Nat) (L1 : List R_iiii) (n2 n3 : Nat) (L4 : List R_ii) (a5 a6 a7 : Int) (O1 : Obj) : Za0 → List (Option AObj)
 | .h1m0 v6 => [some (.cells [vn, vs 1 o0 n2 n3, vs 2 0 L4.length L4.length, vn, vn, vi a5, vi a6, vi a7] 50), some (.ro O1), some (.cells (Zb Ze L4) 63)]

noncomputable def ZdG : Nat → Code × List ZaO
 | 1 => Zcm [1, 3] (Zc1 Try.f38) []
 | _ => (.skip, [])
def ZiI : Nat → Bool
 | 1 => true
 | _ => true
noncomputable def Zj6 (i : Nat) : List ZaO := match ZiI i with | true => .rnd i :: (ZdG i).2 | false => (ZdG i).2

noncomputable def Zbt (o0 : Nat) (L1 : List R_iiii) (n2 n3 : Nat) (L4 : List R_ii) (a5 a6 a7 : Int) (O1 : Obj) (N : Nat) : Mach := ⟨Try.f38, [.cells [vn, vs 1 o0 n2 n3, vs 2 0 L4.length L4.length, vn, vn, vi a5, vi a6, vi a7] 50, .ro O1, .cells (Zb Ze L4) 63], Za0, ZaP, Ze7 L1 n2 n3 L4 a5 a6 a7 N, ZoM, ZdG, ZiI, ZpI o0 L1 n2 n3 L4 a5 a6 a7 O1, ZpJ o0 L1 n2 n3 L4 a5 a6 a7 O1, Zj5 o0 L1 n2 n3 L4 a5 a6 a7 O1, ZiH o0 L1 n2 n3 L4 a5 a6 a7 O1⟩

theorem Zll (o0 : Nat) (L1 : List R_iiii) (n2 n3 : Nat) (L4 : List R_ii) (a5 a6 a7 : Int) (O1 : Obj) (F1 : Zs O1 o0 L1) (v6 N : Nat) : (Zbt o0 L1 n2 n3 L4 a5 a6 a7 O1 N).Ok Try.prog Zr (.h1m0 v6 : Za0) (Ze7 L1 n2 n3 L4 a5 a6 a7 N (.h1m0 v6 : Za0)) := by
 show (Zbt o0 L1 n2 n3 L4 a5 a6 a7 O1 N).Ok Try.prog Zr (.h1m0 v6 : Za0) (Zf3 L1 n2 n3 L4 a5 a6 a7 N v6)
 unfold Zf3
 refine Mach.ok_ite (fun g0 => ?_) (fun g0 => ?_)
 ·
  refine Mach.ok_ite (fun g1 => ?_) (fun g1 => ?_)
  ·
   refine Mach.ok_bind (fun z2 c2 => ?_)
   cases z2 with
   | r0 y2_0 y2_1 =>
    refine Mach.ok_ite (fun g3 => ?_) (fun g3 => ?_)
    ·
     subst g3
     refine Mach.ok_ite (fun g4 => ?_) (fun g4 => ?_)
     ·
      exact Mach.ok_fin (M := Zbt o0 L1 n2 n3 L4 a5 a6 a7 O1 N) (cd := 1000000) (cm := 0) (r := (.r0 ((v6 : Int)) ((120 : Int)) : ZaP)) (fu := 4000) (orc := (Zi [(0, true), (1, true)] [] [(0, v6)] [(0, [.i (L1.getD v6 R_iiii.z).a0, .i (L1.getD v6 R_iiii.z).a1, .i (L1.getD v6 R_iiii.z).a2, .i (L1.getD v6 R_iiii.z).a3])] [(1, (Zbz ((L1.getD v6 R_iiii.z).a0) ((L1.getD v6 R_iiii.z).a1) ((L1.getD v6 R_iiii.z).a2) ((L1.getD v6 R_iiii.z).a3)  y2_0 true  4))])) (live := [0, 1, 2]) (u := vtt) (bl := [some (.cells [vn, vs 1 o0 n2 n3, vs 2 0 L4.length L4.length, vn, vn, vi a5, vi (v6 : Int), vi (120 : Int)] 50), some (.ro O1), some (.cells (Zb Ze L4) 63)]) (ob := [((decide (y2_0 > (n2 : Int))), true), (dP (Zbp #[Value.agg #[vi (L1.getD v6 R_iiii.z).a0, vi (L1.getD v6 R_iiii.z).a1, vi (L1.getD v6 R_iiii.z).a2, vi (L1.getD v6 R_iiii.z).a3]] ((L1.getD v6 R_iiii.z).a0) ((L1.getD v6 R_iiii.z).a1) ((L1.getD v6 R_iiii.z).a2) ((L1.getD v6 R_iiii.z).a3)  y2_0 true  4), true), (Zz (ZC O1 (o0 + (v6 * 4)) 4) [.i (L1.getD v6 R_iiii.z).a0, .i (L1.getD v6 R_iiii.z).a1, .i (L1.getD v6 R_iiii.z).a2, .i (L1.getD v6 R_iiii.z).a3], true), (Nat.blt v6 n2, true), ((v6 : Int) == Int.ofNat v6, true), ((decide ((v6 : Int) < (n2 : Int))), true)]) (fun gv => by kernel_rfl) (oY <| Za (Zf (Zb0 #[Value.agg #[vi (L1.getD v6 R_iiii.z).a0, vi (L1.getD v6 R_iiii.z).a1, vi (L1.getD v6 R_iiii.z).a2, vi (L1.getD v6 R_iiii.z).a3]] ((L1.getD v6 R_iiii.z).a0) ((L1.getD v6 R_iiii.z).a1) ((L1.getD v6 R_iiii.z).a2) ((L1.getD v6 R_iiii.z).a3)  y2_0 true N c2  4 rfl (by decide) (by decide))) <| Za ((show (o0 + v6 * 4 + 0) = (o0 + (v6 * 4)) from by omega) ▸ F1 v6 (by omega) 0 4 (show 0 + 4 ≤ 4 from by decide)) <| oB <| oI <| oY Zd) rfl (by decide) (by rfl) rr ⟨⟨rfl, ⟨[], by rfl⟩, by rfl⟩, ⟨rfl, ⟨(Zg (E := Ze) (α := R_ii) _ L4 _), trivial⟩⟩⟩
     ·
      refine Mach.ok_ite (fun g5 => ?_) (fun g5 => ?_)
      ·
       refine Mach.ok_ite (fun g6 => ?_) (fun g6 => ?_)
       ·
        refine Mach.ok_ite (fun g7 => ?_) (fun g7 => ?_)
        ·
         refine Mach.ok_ite (fun g8 => ?_) (fun g8 => ?_)
         ·
          exact Mach.ok_fin (M := Zbt o0 L1 n2 n3 L4 a5 a6 a7 O1 N) (cd := 1000000) (cm := 0) (r := (.r0 ((v6 : Int)) ((120 : Int)) : ZaP)) (fu := 4000) (orc := (Zi [(0, true), (1, false), (2, true)] [] [(0, v6), (1, (y2_0).toNat), (2, v6)] [(0, [.i (L1.getD v6 R_iiii.z).a0, .i (L1.getD v6 R_iiii.z).a1, .i (L1.getD v6 R_iiii.z).a2, .i (L1.getD v6 R_iiii.z).a3]), (4, [.i (L4.getD (y2_0).toNat R_ii.z).a0, .i (L4.getD (y2_0).toNat R_ii.z).a1]), (6, [.i (L4.getD v6 R_ii.z).a0, .i (L4.getD v6 R_ii.z).a1])] [(1, (Zbz ((L1.getD v6 R_iiii.z).a0) ((L1.getD v6 R_iiii.z).a1) ((L1.getD v6 R_iiii.z).a2) ((L1.getD v6 R_iiii.z).a3)  y2_0 true  4))])) (live := [0, 1, 2]) (u := vtt) (bl := [some (.cells [vn, vs 1 o0 n2 n3, vs 2 0 L4.length L4.length, vn, vn, vi a5, vi (v6 : Int), vi (120 : Int)] 50), some (.ro O1), some (.cells (Zb Ze L4) 63)]) (ob := [((!(((L4.getD (y2_0).toNat R_ii.z).a0 == (L4.getD v6 R_ii.z).a0) && (((L4.getD (y2_0).toNat R_ii.z).a1 == (L4.getD v6 R_ii.z).a1) && true))), true), (Zz (Z7 2 (List.drop (0 + (v6 * 2)) (Zb Ze L4))) [.i (L4.getD v6 R_ii.z).a0, .i (L4.getD v6 R_ii.z).a1], true), (Nat.blt v6 L4.length, true), ((v6 : Int) == Int.ofNat v6, true), (Zz (Z7 2 (List.drop (0 + ((y2_0).toNat * 2)) (Zb Ze L4))) [.i (L4.getD (y2_0).toNat R_ii.z).a0, .i (L4.getD (y2_0).toNat R_ii.z).a1], true), (Nat.blt (y2_0).toNat L4.length, true), (y2_0 == Int.ofNat (y2_0).toNat, true), ((decide (y2_0 > (n2 : Int))), false), (dP (Zbp #[Value.agg #[vi (L1.getD v6 R_iiii.z).a0, vi (L1.getD v6 R_iiii.z).a1, vi (L1.getD v6 R_iiii.z).a2, vi (L1.getD v6 R_iiii.z).a3]] ((L1.getD v6 R_iiii.z).a0) ((L1.getD v6 R_iiii.z).a1) ((L1.getD v6 R_iiii.z).a2) ((L1.getD v6 R_iiii.z).a3)  y2_0 true  4), true), (Zz (ZC O1 (o0 + (v6 * 4)) 4) [.i (L1.getD v6 R_iiii.z).a0, .i (L1.getD v6 R_iiii.z).a1, .i (L1.getD v6 R_iiii.z).a2, .i (L1.getD v6 R_iiii.z).a3], true), (Nat.blt v6 n2, true), ((v6 : Int) == Int.ofNat v6, true), ((decide ((v6 : Int) < (n2 : Int))), true)]) (fun gv => by kernel_rfl) (Za (by rw [Bool.not_eq_true']; exact Bool.eq_false_iff.2 (by simp only [ne_eq, Bool.and_true, Bool.and_eq_true, beq_iff_eq]; first | omega | (intro hh; simp_all; done))) <| Za (Zaq (E := Ze) (L := L4) (i := v6) (q := 0) (by omega) (show (0 + (v6 * 2)) = v6 * 2 + 0 from by omega) (show 0 + 2 ≤ 2 from by decide) rfl rfl) <| oB <| oI <| Za (Zaq (E := Ze) (L := L4) (i := (y2_0).toNat) (q := 0) (by omega) (show (0 + ((y2_0).toNat * 2)) = (y2_0).toNat * 2 + 0 from by omega) (show 0 + 2 ≤ 2 from by decide) rfl rfl) <| oB <| oI <| oN <| Za (Zf (Zb0 #[Value.agg #[vi (L1.getD v6 R_iiii.z).a0, vi (L1.getD v6 R_iiii.z).a1, vi (L1.getD v6 R_iiii.z).a2, vi (L1.getD v6 R_iiii.z).a3]] ((L1.getD v6 R_iiii.z).a0) ((L1.getD v6 R_iiii.z).a1) ((L1.getD v6 R_iiii.z).a2) ((L1.getD v6 R_iiii.z).a3)  y2_0 true N c2  4 rfl (by decide) (by decide))) <| Za ((show (o0 + v6 * 4 + 0) = (o0 + (v6 * 4)) from by omega) ▸ F1 v6 (by omega) 0 4 (show 0 + 4 ≤ 4 from by decide)) <| oB <| oI <| oY Zd) rfl (by decide) (by rfl) rr ⟨⟨rfl, ⟨[], by rfl⟩, by rfl⟩, ⟨rfl, ⟨(Zg (E := Ze) (α := R_ii) _ L4 _), trivial⟩⟩⟩
         ·
          refine Mach.ok_ite (fun g9 => ?_) (fun g9 => ?_)
          ·
           exact Mach.ok_next (M := Zbt o0 L1 n2 n3 L4 a5 a6 a7 O1 N) (cd := 1000000) (cm := 0) (y := (.h1m0 ((v6 + 1)) : Za0)) (fu := 4000) (orc := (Zi [(0, true), (1, false), (2, false)] [(0, (((v6 + 1) : Nat) : Int))] [(0, v6), (1, (y2_0).toNat), (2, v6)] [(0, [.i (L1.getD v6 R_iiii.z).a0, .i (L1.getD v6 R_iiii.z).a1, .i (L1.getD v6 R_iiii.z).a2, .i (L1.getD v6 R_iiii.z).a3]), (4, [.i (L4.getD (y2_0).toNat R_ii.z).a0, .i (L4.getD (y2_0).toNat R_ii.z).a1]), (6, [.i (L4.getD v6 R_ii.z).a0, .i (L4.getD v6 R_ii.z).a1])] [(1, (Zbz ((L1.getD v6 R_iiii.z).a0) ((L1.getD v6 R_iiii.z).a1) ((L1.getD v6 R_iiii.z).a2) ((L1.getD v6 R_iiii.z).a3)  y2_0 true  4))])) (live := [0, 1, 2]) (tv := fun _ => [some (vp 0 0), some (vs 1 o0 n2 n3), some (vi (n2 : Int)), some (vi (((v6 + 1) : Nat) : Int))]) (bl := [some (.cells [vn, vs 1 o0 n2 n3, vs 2 0 L4.length L4.length, vn, vn, vi a5, vi a6, vi a7] 50), some (.ro O1), some (.cells (Zb Ze L4) 63)]) (ob := [((IntKind.i64.wrap ((v6 : Int) + (1 : Int))) == (((v6 + 1) : Nat) : Int), true), ((!(((L4.getD (y2_0).toNat R_ii.z).a0 == (L4.getD v6 R_ii.z).a0) && (((L4.getD (y2_0).toNat R_ii.z).a1 == (L4.getD v6 R_ii.z).a1) && true))), false), (Zz (Z7 2 (List.drop (0 + (v6 * 2)) (Zb Ze L4))) [.i (L4.getD v6 R_ii.z).a0, .i (L4.getD v6 R_ii.z).a1], true), (Nat.blt v6 L4.length, true), ((v6 : Int) == Int.ofNat v6, true), (Zz (Z7 2 (List.drop (0 + ((y2_0).toNat * 2)) (Zb Ze L4))) [.i (L4.getD (y2_0).toNat R_ii.z).a0, .i (L4.getD (y2_0).toNat R_ii.z).a1], true), (Nat.blt (y2_0).toNat L4.length, true), (y2_0 == Int.ofNat (y2_0).toNat, true), ((decide (y2_0 > (n2 : Int))), false), (dP (Zbp #[Value.agg #[vi (L1.getD v6 R_iiii.z).a0, vi (L1.getD v6 R_iiii.z).a1, vi (L1.getD v6 R_iiii.z).a2, vi (L1.getD v6 R_iiii.z).a3]] ((L1.getD v6 R_iiii.z).a0) ((L1.getD v6 R_iiii.z).a1) ((L1.getD v6 R_iiii.z).a2) ((L1.getD v6 R_iiii.z).a3)  y2_0 true  4), true), (Zz (ZC O1 (o0 + (v6 * 4)) 4) [.i (L1.getD v6 R_iiii.z).a0, .i (L1.getD v6 R_iiii.z).a1, .i (L1.getD v6 R_iiii.z).a2, .i (L1.getD v6 R_iiii.z).a3], true), (Nat.blt v6 n2, true), ((v6 : Int) == Int.ofNat v6, true), ((decide ((v6 : Int) < (n2 : Int))), true)]) rfl (show 1 ∈ Zx (Zj6 1) from by decide +kernel) (fun gv => by kernel_rfl) (Za (beq_iff_eq.2 ((wrap_i64 ltA).trans (by first | rfl | omega))) <| Za (by rw [Bool.not_eq_false']; first | (simp only [beq_self_eq_true, Bool.and_self]; done) | (simp only [Bool.and_true, Bool.and_eq_true, beq_iff_eq] <;> first | omega | (simp_all; done))) <| Za (Zaq (E := Ze) (L := L4) (i := v6) (q := 0) (by omega) (show (0 + (v6 * 2)) = v6 * 2 + 0 from by omega) (show 0 + 2 ≤ 2 from by decide) rfl rfl) <| oB <| oI <| Za (Zaq (E := Ze) (L := L4) (i := (y2_0).toNat) (q := 0) (by omega) (show (0 + ((y2_0).toNat * 2)) = (y2_0).toNat * 2 + 0 from by omega) (show 0 + 2 ≤ 2 from by decide) rfl rfl) <| oB <| oI <| oN <| Za (Zf (Zb0 #[Value.agg #[vi (L1.getD v6 R_iiii.z).a0, vi (L1.getD v6 R_iiii.z).a1, vi (L1.getD v6 R_iiii.z).a2, vi (L1.getD v6 R_iiii.z).a3]] ((L1.getD v6 R_iiii.z).a0) ((L1.getD v6 R_iiii.z).a1) ((L1.getD v6 R_iiii.z).a2) ((L1.getD v6 R_iiii.z).a3)  y2_0 true N c2  4 rfl (by decide) (by decide))) <| Za ((show (o0 + v6 * 4 + 0) = (o0 + (v6 * 4)) from by omega) ▸ F1 v6 (by omega) 0 4 (show 0 + 4 ≤ 4 from by decide)) <| oB <| oI <| oY Zd) rfl (by decide) (by rfl) (fun _ => ⟨rr, ⟨rr, ⟨rr, ⟨rr, trivial⟩⟩⟩⟩) ⟨⟨rfl, ⟨[], by rfl⟩, by rfl⟩, ⟨rfl, ⟨(Zg (E := Ze) (α := R_ii) _ L4 _), trivial⟩⟩⟩
          ·
           exact Mach.ok_none
        ·
         exact Mach.ok_none
       ·
        exact Mach.ok_none
      ·
       exact Mach.ok_none
    ·
     obtain rfl : y2_1 = false := by simpa using g3
     refine Mach.ok_ite (fun g4 => ?_) (fun g4 => ?_)
     ·
      exact Mach.ok_next (M := Zbt o0 L1 n2 n3 L4 a5 a6 a7 O1 N) (cd := 1000000) (cm := 0) (y := (.h1m0 ((v6 + 1)) : Za0)) (fu := 4000) (orc := (Zi [(0, true)] [(0, (((v6 + 1) : Nat) : Int))] [(0, v6)] [(0, [.i (L1.getD v6 R_iiii.z).a0, .i (L1.getD v6 R_iiii.z).a1, .i (L1.getD v6 R_iiii.z).a2, .i (L1.getD v6 R_iiii.z).a3])] [(1, (Zbz ((L1.getD v6 R_iiii.z).a0) ((L1.getD v6 R_iiii.z).a1) ((L1.getD v6 R_iiii.z).a2) ((L1.getD v6 R_iiii.z).a3)  y2_0 false  4))])) (live := [0, 1, 2]) (tv := fun _ => [some (vp 0 0), some (vs 1 o0 n2 n3), some (vi (n2 : Int)), some (vi (((v6 + 1) : Nat) : Int))]) (bl := [some (.cells [vn, vs 1 o0 n2 n3, vs 2 0 L4.length L4.length, vn, vn, vi a5, vi a6, vi a7] 50), some (.ro O1), some (.cells (Zb Ze L4) 63)]) (ob := [((IntKind.i64.wrap ((v6 : Int) + (1 : Int))) == (((v6 + 1) : Nat) : Int), true), (dP (Zbp #[Value.agg #[vi (L1.getD v6 R_iiii.z).a0, vi (L1.getD v6 R_iiii.z).a1, vi (L1.getD v6 R_iiii.z).a2, vi (L1.getD v6 R_iiii.z).a3]] ((L1.getD v6 R_iiii.z).a0) ((L1.getD v6 R_iiii.z).a1) ((L1.getD v6 R_iiii.z).a2) ((L1.getD v6 R_iiii.z).a3)  y2_0 false  4), true), (Zz (ZC O1 (o0 + (v6 * 4)) 4) [.i (L1.getD v6 R_iiii.z).a0, .i (L1.getD v6 R_iiii.z).a1, .i (L1.getD v6 R_iiii.z).a2, .i (L1.getD v6 R_iiii.z).a3], true), (Nat.blt v6 n2, true), ((v6 : Int) == Int.ofNat v6, true), ((decide ((v6 : Int) < (n2 : Int))), true)]) rfl (show 1 ∈ Zx (Zj6 1) from by decide +kernel) (fun gv => by kernel_rfl) (Za (beq_iff_eq.2 ((wrap_i64 ltA).trans (by first | rfl | omega))) <| Za (Zf (Zb0 #[Value.agg #[vi (L1.getD v6 R_iiii.z).a0, vi (L1.getD v6 R_iiii.z).a1, vi (L1.getD v6 R_iiii.z).a2, vi (L1.getD v6 R_iiii.z).a3]] ((L1.getD v6 R_iiii.z).a0) ((L1.getD v6 R_iiii.z).a1) ((L1.getD v6 R_iiii.z).a2) ((L1.getD v6 R_iiii.z).a3)  y2_0 false N c2  4 rfl (by decide) (by decide))) <| Za ((show (o0 + v6 * 4 + 0) = (o0 + (v6 * 4)) from by omega) ▸ F1 v6 (by omega) 0 4 (show 0 + 4 ≤ 4 from by decide)) <| oB <| oI <| oY Zd) rfl (by decide) (by rfl) (fun _ => ⟨rr, ⟨rr, ⟨rr, ⟨rr, trivial⟩⟩⟩⟩) ⟨⟨rfl, ⟨[], by rfl⟩, by rfl⟩, ⟨rfl, ⟨(Zg (E := Ze) (α := R_ii) _ L4 _), trivial⟩⟩⟩
     ·
      exact Mach.ok_none
  ·
   exact Mach.ok_none
 ·
  exact Mach.ok_fin (M := Zbt o0 L1 n2 n3 L4 a5 a6 a7 O1 N) (cd := 1000000) (cm := 0) (r := (.r0 (a6) (a7) : ZaP)) (fu := 4000) (orc := (Zi [(0, false)] [] [] [] [])) (live := [0, 1, 2]) (u := vtt) (bl := [some (.cells [vn, vs 1 o0 n2 n3, vs 2 0 L4.length L4.length, vn, vn, vi a5, vi a6, vi a7] 50), some (.ro O1), some (.cells (Zb Ze L4) 63)]) (ob := [((decide ((v6 : Int) < (n2 : Int))), false)]) (fun gv => by kernel_rfl) (oN Zd) rfl (by decide) (by rfl) rr ⟨⟨rfl, ⟨[], by rfl⟩, by rfl⟩, ⟨rfl, ⟨(Zg (E := Ze) (α := R_ii) _ L4 _), trivial⟩⟩⟩

theorem ZnJ (o0 : Nat) (L1 : List R_iiii) (n2 n3 : Nat) (L4 : List R_ii) (a5 a6 a7 : Int) (O1 : Obj) (F1 : Zs O1 o0 L1) (N : Nat) : (Zbt o0 L1 n2 n3 L4 a5 a6 a7 O1 N).Enter Try.prog Zr #[vp 0 0] (Zg9 L1 n2 n3 L4 a5 a6 a7 N) := by
 unfold Zg9
 exact Mach.en_head (bK := ZdG 1) (M := Zbt o0 L1 n2 n3 L4 a5 a6 a7 O1 N) (cd := 1000000) (cm := 0) (y := (.h1m0 (0) : Za0)) (fu := 4000) (orc := (Zi [] [] [] [] [])) (live := [0, 1, 2]) (tv := [some (vp 0 0), some (vs 1 o0 n2 n3), some (vi (n2 : Int)), some (v0)]) (bl := [some (.cells [vn, vs 1 o0 n2 n3, vs 2 0 L4.length L4.length, vn, vn, vi a5, vi a6, vi a7] 50), some (.ro O1), some (.cells (Zb Ze L4) 63)]) (ob := []) rfl rfl (show Zx (ZdG 1).2 = [] from rfl) (by kernel_rfl) Zd rfl (by decide) (by rfl) ⟨rr, ⟨rr, ⟨rr, ⟨⟨Eq.trans (show (vi ((0 : Nat) : Int) : Value) = v0 from (congrArg (Value.int .i64) (by first | rfl | omega))) (by rfl), by rfl⟩, trivial⟩⟩⟩⟩ ⟨⟨rfl, ⟨[], by rfl⟩, by rfl⟩, ⟨rfl, ⟨(Zg (E := Ze) (α := R_ii) _ L4 _), trivial⟩⟩⟩

theorem ZlO (o0 : Nat) (L1 : List R_iiii) (n2 n3 : Nat) (L4 : List R_ii) (a5 a6 a7 : Int) (O1 : Obj) (F1 : Zs O1 o0 L1) (N : Nat) (r : ZaP) (h : Zhs L1 n2 n3 L4 a5 a6 a7 N = some r) : LSpec Try.prog 38 #[vp 0 0] [.cells [vn, vs 1 o0 n2 n3, vs 2 0 L4.length L4.length, vn, vn, vi a5, vi a6, vi a7] 50, .ro O1, .cells (Zb Ze L4) 63] (Zj5 o0 L1 n2 n3 L4 a5 a6 a7 O1 r) (ZiH o0 L1 n2 n3 L4 a5 a6 a7 O1 r) :=
 Mach.spec Zao (Zbt o0 L1 n2 n3 L4 a5 a6 a7 O1 N) Try.func38 (by kernel_rfl) (by kernel_rfl) (fun x => by cases x <;> exact ZN _ rfl) (fun r => by cases r <;> exact ZN _ rfl) (fun x => by
  cases x with
  | h1m0 _ => exact fun _ => (show ¬ (1 ∈ Zx (ZdG 1).2) from by decide +kernel)
  ) (fun x => (show (Zbt o0 L1 n2 n3 L4 a5 a6 a7 O1 N).Ok Try.prog Zr x (Ze7 L1 n2 n3 L4 a5 a6 a7 N x) from by
  cases x with
  | h1m0 v6 => exact Zll o0 L1 n2 n3 L4 a5 a6 a7 O1 F1 v6 N
  )) (ZnJ o0 L1 n2 n3 L4 a5 a6 a7 O1 F1 N) (n := N) h

noncomputable def ZoN (o0 : Nat) (L1 : List R_iiii) (n2 n3 : Nat) (L4 : List R_ii) (a5 a6 a7 : Int) (O1 : Obj) (w6 w7 : Int) (k0 k1 k2 n : Nat) : Zak := .call [(k0, .cells [vn, vs k1 o0 n2 n3, vs k2 0 L4.length L4.length, vn, vn, vi a5, vi a6, vi a7] 50), (k1, .ro O1), (k2, .cells (Zb Ze L4) 63)] (vtt) [(k0, some (.cells [vn, vs k1 o0 n2 n3, vs k2 0 L4.length L4.length, vn, vn, vi a5, vi w6, vi w7] 50))] 0
def ZiJ (A : Array Value) (o0 : Nat) (L1 : List R_iiii) (n2 n3 : Nat) (L4 : List R_ii) (a5 a6 a7 : Int) (O1 : Obj) (w6 w7 : Int) (k0 k1 k2 n : Nat) : Prop := Zw Try.prog 38 A [(k0, .cells [vn, vs k1 o0 n2 n3, vs k2 0 L4.length L4.length, vn, vn, vi a5, vi a6, vi a7] 50), (k1, .ro O1), (k2, .cells (Zb Ze L4) 63)] (vtt) [(k0, some (.cells [vn, vs k1 o0 n2 n3, vs k2 0 L4.length L4.length, vn, vn, vi a5, vi w6, vi w7] 50))] n 0

theorem ZoO (A : Array Value) (o0 : Nat) (L1 : List R_iiii) (n2 n3 : Nat) (L4 : List R_ii) (a5 a6 a7 : Int) (O1 : Obj) (F1 : Zs O1 o0 L1) (w6 w7 : Int) (N : Nat) (h : Zhs L1 n2 n3 L4 a5 a6 a7 N = some (.r0 w6 w7)) (k0 k1 k2 n : Nat) (hA : A = #[vp k0 0]) (hnd : ([k0, k1, k2] : List Nat).Nodup) (hlt : ∀ k ∈ ([k0, k1, k2] : List Nat), k < n) : ZiJ A o0 L1 n2 n3 L4 a5 a6 a7 O1 w6 w7 k0 k1 k2 n :=
 Z0 hA (LSpec.callL (show LSpec Try.prog 38 #[vp 0 0] [.cells [vn, vs 1 o0 n2 n3, vs 2 0 L4.length L4.length, vn, vn, vi a5, vi a6, vi a7] 50, .ro O1, .cells (Zb Ze L4) 63] (vtt) [some (.cells [vn, vs 1 o0 n2 n3, vs 2 0 L4.length L4.length, vn, vn, vi a5, vi w6, vi w7] 50), some (.ro O1), some (.cells (Zb Ze L4) 63)] from ZlO o0 L1 n2 n3 L4 a5 a6 a7 O1 F1 N _ h) [k0, k1, k2] n [0] rfl hnd hlt (show 3 ≤ 3 from by decide) (show ∀ j ∈ ([0] : List Nat), j < 3 from by decide) (by rfl) ⟨rfl, ⟨rfl, ⟨(Zp _ _ _), trivial⟩⟩⟩ (by rfl) ⟨rfl, ⟨rfl, ⟨(Zp _ _ _), trivial⟩⟩⟩ ⟨.inl (by decide), ⟨.inr rfl, ⟨.inr rfl, trivial⟩⟩⟩ rfl rfl rfl (Zc (Zn rfl rfl) (Zc (Zn rfl rfl) (Zc (Zn rfl (Zy _ _ _)) rfl))) (Zc (Zn rfl (Zac rfl)) rfl))

noncomputable def Zhx (a0 a1 a2 a3 : Int) (L4 : List R_ii) (o5 : Nat) (L6 : List R_iiii) (n7 n8 : Nat) (L9 : List R_ii) (L10 L11 : List Int) (a12 a13 a14 : Int) (O2 : Obj) : Zq → Value
 | .r0 w6 => vi w6
noncomputable def Zhh (a0 a1 a2 a3 : Int) (L4 : List R_ii) (o5 : Nat) (L6 : List R_iiii) (n7 n8 : Nat) (L9 : List R_ii) (L10 L11 : List Int) (a12 a13 a14 : Int) (O2 : Obj) : Zq → List (Option AObj)
 | .r0 w6 => [some (.cells [vs 1 0 L4.length L4.length, vs 2 o5 n7 n8, vs 3 0 L9.length L9.length, vs 4 0 L10.length L10.length, vs 5 0 L11.length L11.length, vi a12, vi a13, vi a14] 50), some (.cells (Zb Ze L4) 76), some (.ro O2), some (.cells (Zb Ze L9) 63), some (.cells (Zb eI L10) 3), some (.cells (Zb eI L11) 3)]

theorem ZkB (a0 a1 a2 a3 : Int) (L4 : List R_ii) (o5 : Nat) (L6 : List R_iiii) (n7 n8 : Nat) (L9 : List R_ii) (L10 L11 : List Int) (a12 a13 a14 : Int) (O2 : Obj) (F2 : Zs O2 o5 L6) (N : Nat) : Fx Try.prog Zr Try.f34 [.cells [vs 1 0 L4.length L4.length, vs 2 o5 n7 n8, vs 3 0 L9.length L9.length, vs 4 0 L10.length L10.length, vs 5 0 L11.length L11.length, vi a12, vi a13, vi a14] 50, .cells (Zb Ze L4) 76, .ro O2, .cells (Zb Ze L9) 63, .cells (Zb eI L10) 3, .cells (Zb eI L11) 3] #[vp 0 0, Value.agg #[vi a0, vi a1, vi a2, vi a3]] (Zhx a0 a1 a2 a3 L4 o5 L6 n7 n8 L9 L10 L11 a12 a13 a14 O2) (Zhh a0 a1 a2 a3 L4 o5 L6 n7 n8 L9 L10 L11 a12 a13 a14 O2) (Zcf a0 a1 a2 a3 L4 L6 n7 n8 L9 L10 L11 a12 a13 a14 N) := by
 unfold Zcf
 refine Zm (fun g0 => ?_) (fun g0 => ?_)
 ·
  refine Zm (fun g1 => ?_) (fun g1 => ?_)
  ·
   refine Za4 (fun z2 c2 => ?_)
   cases z2 with
   | r0 y2_0 =>
    refine Zm (fun g3 => ?_) (fun g3 => ?_)
    ·
     exact Zk (r := (.r0 ((140 : Int)) : Zq)) (fu := 4000) (orc := (Zi [(0, true), (1, true), (2, true)] [] [] [] [(0, (Zaa (a0) (a1) (a2) (a3)  y2_0  7))])) (live := [0, 1, 2, 3, 4, 5]) (u := vi (140 : Int)) (bl := [some (.cells [vs 1 0 L4.length L4.length, vs 2 o5 n7 n8, vs 3 0 L9.length L9.length, vs 4 0 L10.length L10.length, vs 5 0 L11.length L11.length, vi a12, vi a13, vi a14] 50), some (.cells (Zb Ze L4) 76), some (.ro O2), some (.cells (Zb Ze L9) 63), some (.cells (Zb eI L10) 3), some (.cells (Zb eI L11) 3)]) (ob := [((y2_0 == (0 : Int)), true), (dP (ZU #[Value.agg #[vi a0, vi a1, vi a2, vi a3]] (a0) (a1) (a2) (a3)  y2_0  7), true), ((decide ((L4.length : Int) ≥ (8 : Int))), true), ((a0 == (15 : Int)), true)]) (by kernel_rfl) (oT <| Za (Zf (Zab #[Value.agg #[vi a0, vi a1, vi a2, vi a3]] (a0) (a1) (a2) (a3)  y2_0 N c2  7 rfl (by decide) (by decide))) <| oY <| oT Zd) rfl (by decide) (by rfl) rr ⟨⟨rfl, ⟨[], by rfl⟩, by rfl⟩, ⟨(Zg (E := Ze) (α := R_ii) _ L4 _), ⟨rfl, ⟨(Zg (E := Ze) (α := R_ii) _ L9 _), ⟨(Zg (E := eI) (α := Int) _ L10 _), ⟨(Zg (E := eI) (α := Int) _ L11 _), trivial⟩⟩⟩⟩⟩⟩
    ·
     refine Za4 (fun z4 c4 => ?_)
     cases z4 with
     | r0 y4_0 =>
      refine Zm (fun g5 => ?_) (fun g5 => ?_)
      ·
       exact Zk (r := (.r0 ((120 : Int)) : Zq)) (fu := 4000) (orc := (Zi [(0, true), (1, true), (2, false), (3, true)] [] [] [] [(0, (Zaa (a0) (a1) (a2) (a3)  y2_0  7)), (1, (Zaa (a0) (a1) (a2) (a3)  y4_0  7))])) (live := [0, 1, 2, 3, 4, 5]) (u := vi (120 : Int)) (bl := [some (.cells [vs 1 0 L4.length L4.length, vs 2 o5 n7 n8, vs 3 0 L9.length L9.length, vs 4 0 L10.length L10.length, vs 5 0 L11.length L11.length, vi a12, vi a13, vi a14] 50), some (.cells (Zb Ze L4) 76), some (.ro O2), some (.cells (Zb Ze L9) 63), some (.cells (Zb eI L10) 3), some (.cells (Zb eI L11) 3)]) (ob := [((y4_0 != (0 : Int)), true), (dP (ZU #[Value.agg #[vi a0, vi a1, vi a2, vi a3]] (a0) (a1) (a2) (a3)  y4_0  7), true), ((y2_0 == (0 : Int)), false), (dP (ZU #[Value.agg #[vi a0, vi a1, vi a2, vi a3]] (a0) (a1) (a2) (a3)  y2_0  7), true), ((decide ((L4.length : Int) ≥ (8 : Int))), true), ((a0 == (15 : Int)), true)]) (by kernel_rfl) (oD <| Za (Zf (Zab #[Value.agg #[vi a0, vi a1, vi a2, vi a3]] (a0) (a1) (a2) (a3)  y4_0 N c4  7 rfl (by decide) (by decide))) <| oF <| Za (Zf (Zab #[Value.agg #[vi a0, vi a1, vi a2, vi a3]] (a0) (a1) (a2) (a3)  y2_0 N c2  7 rfl (by decide) (by decide))) <| oY <| oT Zd) rfl (by decide) (by rfl) rr ⟨⟨rfl, ⟨[], by rfl⟩, by rfl⟩, ⟨(Zg (E := Ze) (α := R_ii) _ L4 _), ⟨rfl, ⟨(Zg (E := Ze) (α := R_ii) _ L9 _), ⟨(Zg (E := eI) (α := Int) _ L10 _), ⟨(Zg (E := eI) (α := Int) _ L11 _), trivial⟩⟩⟩⟩⟩⟩
      ·
       exact Zk (r := (.r0 ((0 : Int)) : Zq)) (fu := 4000) (orc := (Zi [(0, true), (1, true), (2, false), (3, false)] [] [] [] [(0, (Zaa (a0) (a1) (a2) (a3)  y2_0  7)), (1, (Zaa (a0) (a1) (a2) (a3)  y4_0  7))])) (live := [0, 1, 2, 3, 4, 5]) (u := v0) (bl := [some (.cells [vs 1 0 L4.length L4.length, vs 2 o5 n7 n8, vs 3 0 L9.length L9.length, vs 4 0 L10.length L10.length, vs 5 0 L11.length L11.length, vi a12, vi a13, vi a14] 50), some (.cells (Zb Ze L4) 76), some (.ro O2), some (.cells (Zb Ze L9) 63), some (.cells (Zb eI L10) 3), some (.cells (Zb eI L11) 3)]) (ob := [((y4_0 != (0 : Int)), false), (dP (ZU #[Value.agg #[vi a0, vi a1, vi a2, vi a3]] (a0) (a1) (a2) (a3)  y4_0  7), true), ((y2_0 == (0 : Int)), false), (dP (ZU #[Value.agg #[vi a0, vi a1, vi a2, vi a3]] (a0) (a1) (a2) (a3)  y2_0  7), true), ((decide ((L4.length : Int) ≥ (8 : Int))), true), ((a0 == (15 : Int)), true)]) (by kernel_rfl) (oE <| Za (Zf (Zab #[Value.agg #[vi a0, vi a1, vi a2, vi a3]] (a0) (a1) (a2) (a3)  y4_0 N c4  7 rfl (by decide) (by decide))) <| oF <| Za (Zf (Zab #[Value.agg #[vi a0, vi a1, vi a2, vi a3]] (a0) (a1) (a2) (a3)  y2_0 N c2  7 rfl (by decide) (by decide))) <| oY <| oT Zd) rfl (by decide) (by rfl) rr ⟨⟨rfl, ⟨[], by rfl⟩, by rfl⟩, ⟨(Zg (E := Ze) (α := R_ii) _ L4 _), ⟨rfl, ⟨(Zg (E := Ze) (α := R_ii) _ L9 _), ⟨(Zg (E := eI) (α := Int) _ L10 _), ⟨(Zg (E := eI) (α := Int) _ L11 _), trivial⟩⟩⟩⟩⟩⟩
  ·
   refine Za4 (fun z2 c2 => ?_)
   cases z2 with
   | r0 y2_0 =>
    refine Zm (fun g3 => ?_) (fun g3 => ?_)
    ·
     exact Zk (r := (.r0 ((120 : Int)) : Zq)) (fu := 4000) (orc := (Zi [(0, true), (1, false), (2, true)] [] [] [] [(0, (Zaa (a0) (a1) (a2) (a3)  y2_0  7))])) (live := [0, 1, 2, 3, 4, 5]) (u := vi (120 : Int)) (bl := [some (.cells [vs 1 0 L4.length L4.length, vs 2 o5 n7 n8, vs 3 0 L9.length L9.length, vs 4 0 L10.length L10.length, vs 5 0 L11.length L11.length, vi a12, vi a13, vi a14] 50), some (.cells (Zb Ze L4) 76), some (.ro O2), some (.cells (Zb Ze L9) 63), some (.cells (Zb eI L10) 3), some (.cells (Zb eI L11) 3)]) (ob := [((y2_0 != (0 : Int)), true), (dP (ZU #[Value.agg #[vi a0, vi a1, vi a2, vi a3]] (a0) (a1) (a2) (a3)  y2_0  7), true), ((decide ((L4.length : Int) ≥ (8 : Int))), false), ((a0 == (15 : Int)), true)]) (by kernel_rfl) (oD <| Za (Zf (Zab #[Value.agg #[vi a0, vi a1, vi a2, vi a3]] (a0) (a1) (a2) (a3)  y2_0 N c2  7 rfl (by decide) (by decide))) <| oN <| oT Zd) rfl (by decide) (by rfl) rr ⟨⟨rfl, ⟨[], by rfl⟩, by rfl⟩, ⟨(Zg (E := Ze) (α := R_ii) _ L4 _), ⟨rfl, ⟨(Zg (E := Ze) (α := R_ii) _ L9 _), ⟨(Zg (E := eI) (α := Int) _ L10 _), ⟨(Zg (E := eI) (α := Int) _ L11 _), trivial⟩⟩⟩⟩⟩⟩
    ·
     exact Zk (r := (.r0 ((0 : Int)) : Zq)) (fu := 4000) (orc := (Zi [(0, true), (1, false), (2, false)] [] [] [] [(0, (Zaa (a0) (a1) (a2) (a3)  y2_0  7))])) (live := [0, 1, 2, 3, 4, 5]) (u := v0) (bl := [some (.cells [vs 1 0 L4.length L4.length, vs 2 o5 n7 n8, vs 3 0 L9.length L9.length, vs 4 0 L10.length L10.length, vs 5 0 L11.length L11.length, vi a12, vi a13, vi a14] 50), some (.cells (Zb Ze L4) 76), some (.ro O2), some (.cells (Zb Ze L9) 63), some (.cells (Zb eI L10) 3), some (.cells (Zb eI L11) 3)]) (ob := [((y2_0 != (0 : Int)), false), (dP (ZU #[Value.agg #[vi a0, vi a1, vi a2, vi a3]] (a0) (a1) (a2) (a3)  y2_0  7), true), ((decide ((L4.length : Int) ≥ (8 : Int))), false), ((a0 == (15 : Int)), true)]) (by kernel_rfl) (oE <| Za (Zf (Zab #[Value.agg #[vi a0, vi a1, vi a2, vi a3]] (a0) (a1) (a2) (a3)  y2_0 N c2  7 rfl (by decide) (by decide))) <| oN <| oT Zd) rfl (by decide) (by rfl) rr ⟨⟨rfl, ⟨[], by rfl⟩, by rfl⟩, ⟨(Zg (E := Ze) (α := R_ii) _ L4 _), ⟨rfl, ⟨(Zg (E := Ze) (α := R_ii) _ L9 _), ⟨(Zg (E := eI) (α := Int) _ L10 _), ⟨(Zg (E := eI) (α := Int) _ L11 _), trivial⟩⟩⟩⟩⟩⟩
 ·
  refine Zm (fun g1 => ?_) (fun g1 => ?_)
  ·
   refine Zm (fun g2 => ?_) (fun g2 => ?_)
   ·
    exact Zk (r := (.r0 ((120 : Int)) : Zq)) (fu := 4000) (orc := (Zi [(0, false), (1, true), (2, true)] [] [] [] [])) (live := [0, 1, 2, 3, 4, 5]) (u := vi (120 : Int)) (bl := [some (.cells [vs 1 0 L4.length L4.length, vs 2 o5 n7 n8, vs 3 0 L9.length L9.length, vs 4 0 L10.length L10.length, vs 5 0 L11.length L11.length, vi a12, vi a13, vi a14] 50), some (.cells (Zb Ze L4) 76), some (.ro O2), some (.cells (Zb Ze L9) 63), some (.cells (Zb eI L10) 3), some (.cells (Zb eI L11) 3)]) (ob := [(((L4.length : Int) == (0 : Int)), true), ((a0 == (16 : Int)), true), ((a0 == (15 : Int)), false)]) (by kernel_rfl) (oT <| oT <| oF Zd) rfl (by decide) (by rfl) rr ⟨⟨rfl, ⟨[], by rfl⟩, by rfl⟩, ⟨(Zg (E := Ze) (α := R_ii) _ L4 _), ⟨rfl, ⟨(Zg (E := Ze) (α := R_ii) _ L9 _), ⟨(Zg (E := eI) (α := Int) _ L10 _), ⟨(Zg (E := eI) (α := Int) _ L11 _), trivial⟩⟩⟩⟩⟩⟩
   ·
    refine Zm (fun g3 => ?_) (fun g3 => ?_)
    ·
     refine Zm (fun g4 => ?_) (fun g4 => ?_)
     ·
      exact Zk (r := (.r0 ((120 : Int)) : Zq)) (fu := 4000) (orc := (Zi [(0, false), (1, true), (2, false), (3, true)] [(0, (((L4.length - 1) : Nat) : Int))] [(0, (L4.length - 1))] [(4, [.i (L4.getD (L4.length - 1) R_ii.z).a1])] [])) (live := [0, 1, 2, 3, 4, 5]) (u := vi (120 : Int)) (bl := [some (.cells [vs 1 0 L4.length L4.length, vs 2 o5 n7 n8, vs 3 0 L9.length L9.length, vs 4 0 L10.length L10.length, vs 5 0 L11.length L11.length, vi a12, vi a13, vi a14] 50), some (.cells (Zb Ze L4) 76), some (.ro O2), some (.cells (Zb Ze L9) 63), some (.cells (Zb eI L10) 3), some (.cells (Zb eI L11) 3)]) (ob := [((decide ((L4.getD (L4.length - 1) R_ii.z).a1 ≥ (0 : Int))), true), (Zz (Z7 1 (List.drop ((0 + ((L4.length - 1) * 2)) + 1) (Zb Ze L4))) [.i (L4.getD (L4.length - 1) R_ii.z).a1], true), (Nat.blt (L4.length - 1) L4.length, true), ((((L4.length - 1) : Nat) : Int) == Int.ofNat (L4.length - 1), true), ((IntKind.i64.wrap ((L4.length : Int) - (1 : Int))) == (((L4.length - 1) : Nat) : Int), true), (((L4.length : Int) == (0 : Int)), false), ((a0 == (16 : Int)), true), ((a0 == (15 : Int)), false)]) (by kernel_rfl) (oY <| Za (Zaq (E := Ze) (L := L4) (i := (L4.length - 1)) (q := 1) (by omega) (show ((0 + ((L4.length - 1) * 2)) + 1) = (L4.length - 1) * 2 + 1 from by omega) (show 1 + 1 ≤ 2 from by decide) rfl rfl) <| oB <| oI <| Za (beq_iff_eq.2 ((wrap_i64 ltA).trans (by first | rfl | omega))) <| oF <| oT <| oF Zd) rfl (by decide) (by rfl) rr ⟨⟨rfl, ⟨[], by rfl⟩, by rfl⟩, ⟨(Zg (E := Ze) (α := R_ii) _ L4 _), ⟨rfl, ⟨(Zg (E := Ze) (α := R_ii) _ L9 _), ⟨(Zg (E := eI) (α := Int) _ L10 _), ⟨(Zg (E := eI) (α := Int) _ L11 _), trivial⟩⟩⟩⟩⟩⟩
     ·
      refine Za4 (fun z5 c5 => ?_)
      cases z5 with
      | r0 y5_0 =>
       refine Zm (fun g6 => ?_) (fun g6 => ?_)
       ·
        exact Zk (r := (.r0 ((120 : Int)) : Zq)) (fu := 4000) (orc := (Zi [(0, false), (1, true), (2, false), (3, false), (4, true)] [(0, (((L4.length - 1) : Nat) : Int))] [(0, (L4.length - 1))] [(4, [.i (L4.getD (L4.length - 1) R_ii.z).a1])] [(0, (Zaa (a0) (a1) (a2) (a3)  y5_0  7))])) (live := [0, 1, 2, 3, 4, 5]) (u := vi (120 : Int)) (bl := [some (.cells [vs 1 0 L4.length L4.length, vs 2 o5 n7 n8, vs 3 0 L9.length L9.length, vs 4 0 L10.length L10.length, vs 5 0 L11.length L11.length, vi a12, vi a13, vi a14] 50), some (.cells (Zb Ze L4) 76), some (.ro O2), some (.cells (Zb Ze L9) 63), some (.cells (Zb eI L10) 3), some (.cells (Zb eI L11) 3)]) (ob := [((y5_0 != (0 : Int)), true), (dP (ZU #[Value.agg #[vi a0, vi a1, vi a2, vi a3]] (a0) (a1) (a2) (a3)  y5_0  7), true), ((decide ((L4.getD (L4.length - 1) R_ii.z).a1 ≥ (0 : Int))), false), (Zz (Z7 1 (List.drop ((0 + ((L4.length - 1) * 2)) + 1) (Zb Ze L4))) [.i (L4.getD (L4.length - 1) R_ii.z).a1], true), (Nat.blt (L4.length - 1) L4.length, true), ((((L4.length - 1) : Nat) : Int) == Int.ofNat (L4.length - 1), true), ((IntKind.i64.wrap ((L4.length : Int) - (1 : Int))) == (((L4.length - 1) : Nat) : Int), true), (((L4.length : Int) == (0 : Int)), false), ((a0 == (16 : Int)), true), ((a0 == (15 : Int)), false)]) (by kernel_rfl) (oD <| Za (Zf (Zab #[Value.agg #[vi a0, vi a1, vi a2, vi a3]] (a0) (a1) (a2) (a3)  y5_0 N c5  7 rfl (by decide) (by decide))) <| oN <| Za (Zaq (E := Ze) (L := L4) (i := (L4.length - 1)) (q := 1) (by omega) (show ((0 + ((L4.length - 1) * 2)) + 1) = (L4.length - 1) * 2 + 1 from by omega) (show 1 + 1 ≤ 2 from by decide) rfl rfl) <| oB <| oI <| Za (beq_iff_eq.2 ((wrap_i64 ltA).trans (by first | rfl | omega))) <| oF <| oT <| oF Zd) rfl (by decide) (by rfl) rr ⟨⟨rfl, ⟨[], by rfl⟩, by rfl⟩, ⟨(Zg (E := Ze) (α := R_ii) _ L4 _), ⟨rfl, ⟨(Zg (E := Ze) (α := R_ii) _ L9 _), ⟨(Zg (E := eI) (α := Int) _ L10 _), ⟨(Zg (E := eI) (α := Int) _ L11 _), trivial⟩⟩⟩⟩⟩⟩
       ·
        exact Zk (r := (.r0 ((0 : Int)) : Zq)) (fu := 4000) (orc := (Zi [(0, false), (1, true), (2, false), (3, false), (4, false)] [(0, (((L4.length - 1) : Nat) : Int))] [(0, (L4.length - 1))] [(4, [.i (L4.getD (L4.length - 1) R_ii.z).a1])] [(0, (Zaa (a0) (a1) (a2) (a3)  y5_0  7))])) (live := [0, 1, 2, 3, 4, 5]) (u := v0) (bl := [some (.cells [vs 1 0 L4.length L4.length, vs 2 o5 n7 n8, vs 3 0 L9.length L9.length, vs 4 0 L10.length L10.length, vs 5 0 L11.length L11.length, vi a12, vi a13, vi a14] 50), some (.cells (Zb Ze L4) 76), some (.ro O2), some (.cells (Zb Ze L9) 63), some (.cells (Zb eI L10) 3), some (.cells (Zb eI L11) 3)]) (ob := [((y5_0 != (0 : Int)), false), (dP (ZU #[Value.agg #[vi a0, vi a1, vi a2, vi a3]] (a0) (a1) (a2) (a3)  y5_0  7), true), ((decide ((L4.getD (L4.length - 1) R_ii.z).a1 ≥ (0 : Int))), false), (Zz (Z7 1 (List.drop ((0 + ((L4.length - 1) * 2)) + 1) (Zb Ze L4))) [.i (L4.getD (L4.length - 1) R_ii.z).a1], true), (Nat.blt (L4.length - 1) L4.length, true), ((((L4.length - 1) : Nat) : Int) == Int.ofNat (L4.length - 1), true), ((IntKind.i64.wrap ((L4.length : Int) - (1 : Int))) == (((L4.length - 1) : Nat) : Int), true), (((L4.length : Int) == (0 : Int)), false), ((a0 == (16 : Int)), true), ((a0 == (15 : Int)), false)]) (by kernel_rfl) (oE <| Za (Zf (Zab #[Value.agg #[vi a0, vi a1, vi a2, vi a3]] (a0) (a1) (a2) (a3)  y5_0 N c5  7 rfl (by decide) (by decide))) <| oN <| Za (Zaq (E := Ze) (L := L4) (i := (L4.length - 1)) (q := 1) (by omega) (show ((0 + ((L4.length - 1) * 2)) + 1) = (L4.length - 1) * 2 + 1 from by omega) (show 1 + 1 ≤ 2 from by decide) rfl rfl) <| oB <| oI <| Za (beq_iff_eq.2 ((wrap_i64 ltA).trans (by first | rfl | omega))) <| oF <| oT <| oF Zd) rfl (by decide) (by rfl) rr ⟨⟨rfl, ⟨[], by rfl⟩, by rfl⟩, ⟨(Zg (E := Ze) (α := R_ii) _ L4 _), ⟨rfl, ⟨(Zg (E := Ze) (α := R_ii) _ L9 _), ⟨(Zg (E := eI) (α := Int) _ L10 _), ⟨(Zg (E := eI) (α := Int) _ L11 _), trivial⟩⟩⟩⟩⟩⟩
    ·
     exact Za6
  ·
   refine Zm (fun g2 => ?_) (fun g2 => ?_)
   ·
    refine Zm (fun g3 => ?_) (fun g3 => ?_)
    ·
     exact Zk (r := (.r0 ((120 : Int)) : Zq)) (fu := 4000) (orc := (Zi [(0, false), (1, false), (2, true), (3, true)] [] [] [] [])) (live := [0, 1, 2, 3, 4, 5]) (u := vi (120 : Int)) (bl := [some (.cells [vs 1 0 L4.length L4.length, vs 2 o5 n7 n8, vs 3 0 L9.length L9.length, vs 4 0 L10.length L10.length, vs 5 0 L11.length L11.length, vi a12, vi a13, vi a14] 50), some (.cells (Zb Ze L4) 76), some (.ro O2), some (.cells (Zb Ze L9) 63), some (.cells (Zb eI L10) 3), some (.cells (Zb eI L11) 3)]) (ob := [(((L4.length : Int) == (0 : Int)), true), ((a0 == (17 : Int)), true), ((a0 == (16 : Int)), false), ((a0 == (15 : Int)), false)]) (by kernel_rfl) (oT <| oT <| oF <| oF Zd) rfl (by decide) (by rfl) rr ⟨⟨rfl, ⟨[], by rfl⟩, by rfl⟩, ⟨(Zg (E := Ze) (α := R_ii) _ L4 _), ⟨rfl, ⟨(Zg (E := Ze) (α := R_ii) _ L9 _), ⟨(Zg (E := eI) (α := Int) _ L10 _), ⟨(Zg (E := eI) (α := Int) _ L11 _), trivial⟩⟩⟩⟩⟩⟩
    ·
     refine Za4 (fun z4 c4 => ?_)
     cases z4 with
     | r0 y4_0 =>
      refine Zm (fun g5 => ?_) (fun g5 => ?_)
      ·
       exact Zk (r := (.r0 ((120 : Int)) : Zq)) (fu := 4000) (orc := (Zi [(0, false), (1, false), (2, true), (3, false), (4, true)] [] [] [] [(0, (Zaa (a0) (a1) (a2) (a3)  y4_0  7))])) (live := [0, 1, 2, 3, 4, 5]) (u := vi (120 : Int)) (bl := [some (.cells [vs 1 0 L4.length L4.length, vs 2 o5 n7 n8, vs 3 0 L9.length L9.length, vs 4 0 L10.length L10.length, vs 5 0 L11.length L11.length, vi a12, vi a13, vi a14] 50), some (.cells (Zb Ze L4) 76), some (.ro O2), some (.cells (Zb Ze L9) 63), some (.cells (Zb eI L10) 3), some (.cells (Zb eI L11) 3)]) (ob := [((y4_0 != (0 : Int)), true), (dP (ZU #[Value.agg #[vi a0, vi a1, vi a2, vi a3]] (a0) (a1) (a2) (a3)  y4_0  7), true), (((L4.length : Int) == (0 : Int)), false), ((a0 == (17 : Int)), true), ((a0 == (16 : Int)), false), ((a0 == (15 : Int)), false)]) (by kernel_rfl) (oD <| Za (Zf (Zab #[Value.agg #[vi a0, vi a1, vi a2, vi a3]] (a0) (a1) (a2) (a3)  y4_0 N c4  7 rfl (by decide) (by decide))) <| oF <| oT <| oF <| oF Zd) rfl (by decide) (by rfl) rr ⟨⟨rfl, ⟨[], by rfl⟩, by rfl⟩, ⟨(Zg (E := Ze) (α := R_ii) _ L4 _), ⟨rfl, ⟨(Zg (E := Ze) (α := R_ii) _ L9 _), ⟨(Zg (E := eI) (α := Int) _ L10 _), ⟨(Zg (E := eI) (α := Int) _ L11 _), trivial⟩⟩⟩⟩⟩⟩
      ·
       exact Zk (r := (.r0 ((0 : Int)) : Zq)) (fu := 4000) (orc := (Zi [(0, false), (1, false), (2, true), (3, false), (4, false)] [] [] [] [(0, (Zaa (a0) (a1) (a2) (a3)  y4_0  7))])) (live := [0, 1, 2, 3, 4, 5]) (u := v0) (bl := [some (.cells [vs 1 0 L4.length L4.length, vs 2 o5 n7 n8, vs 3 0 L9.length L9.length, vs 4 0 L10.length L10.length, vs 5 0 L11.length L11.length, vi a12, vi a13, vi a14] 50), some (.cells (Zb Ze L4) 76), some (.ro O2), some (.cells (Zb Ze L9) 63), some (.cells (Zb eI L10) 3), some (.cells (Zb eI L11) 3)]) (ob := [((y4_0 != (0 : Int)), false), (dP (ZU #[Value.agg #[vi a0, vi a1, vi a2, vi a3]] (a0) (a1) (a2) (a3)  y4_0  7), true), (((L4.length : Int) == (0 : Int)), false), ((a0 == (17 : Int)), true), ((a0 == (16 : Int)), false), ((a0 == (15 : Int)), false)]) (by kernel_rfl) (oE <| Za (Zf (Zab #[Value.agg #[vi a0, vi a1, vi a2, vi a3]] (a0) (a1) (a2) (a3)  y4_0 N c4  7 rfl (by decide) (by decide))) <| oF <| oT <| oF <| oF Zd) rfl (by decide) (by rfl) rr ⟨⟨rfl, ⟨[], by rfl⟩, by rfl⟩, ⟨(Zg (E := Ze) (α := R_ii) _ L4 _), ⟨rfl, ⟨(Zg (E := Ze) (α := R_ii) _ L9 _), ⟨(Zg (E := eI) (α := Int) _ L10 _), ⟨(Zg (E := eI) (α := Int) _ L11 _), trivial⟩⟩⟩⟩⟩⟩
   ·
    refine Zm (fun g3 => ?_) (fun g3 => ?_)
    ·
     refine Zm (fun g4 => ?_) (fun g4 => ?_)
     ·
      exact Zk (r := (.r0 ((120 : Int)) : Zq)) (fu := 4000) (orc := (Zi [(0, false), (1, false), (2, false), (3, true), (4, true)] [] [] [] [])) (live := [0, 1, 2, 3, 4, 5]) (u := vi (120 : Int)) (bl := [some (.cells [vs 1 0 L4.length L4.length, vs 2 o5 n7 n8, vs 3 0 L9.length L9.length, vs 4 0 L10.length L10.length, vs 5 0 L11.length L11.length, vi a12, vi a13, vi a14] 50), some (.cells (Zb Ze L4) 76), some (.ro O2), some (.cells (Zb Ze L9) 63), some (.cells (Zb eI L10) 3), some (.cells (Zb eI L11) 3)]) (ob := [(((L4.length : Int) == (0 : Int)), true), ((a0 == (18 : Int)), true), ((a0 == (17 : Int)), false), ((a0 == (16 : Int)), false), ((a0 == (15 : Int)), false)]) (by kernel_rfl) (oT <| oT <| oF <| oF <| oF Zd) rfl (by decide) (by rfl) rr ⟨⟨rfl, ⟨[], by rfl⟩, by rfl⟩, ⟨(Zg (E := Ze) (α := R_ii) _ L4 _), ⟨rfl, ⟨(Zg (E := Ze) (α := R_ii) _ L9 _), ⟨(Zg (E := eI) (α := Int) _ L10 _), ⟨(Zg (E := eI) (α := Int) _ L11 _), trivial⟩⟩⟩⟩⟩⟩
     ·
      refine Za4 (fun z5 c5 => ?_)
      cases z5 with
      | r0 y5_0 =>
       refine Zm (fun g6 => ?_) (fun g6 => ?_)
       ·
        exact Zk (r := (.r0 ((120 : Int)) : Zq)) (fu := 4000) (orc := (Zi [(0, false), (1, false), (2, false), (3, true), (4, false), (5, true)] [] [] [] [(0, (Zaa (a0) (a1) (a2) (a3)  y5_0  7))])) (live := [0, 1, 2, 3, 4, 5]) (u := vi (120 : Int)) (bl := [some (.cells [vs 1 0 L4.length L4.length, vs 2 o5 n7 n8, vs 3 0 L9.length L9.length, vs 4 0 L10.length L10.length, vs 5 0 L11.length L11.length, vi a12, vi a13, vi a14] 50), some (.cells (Zb Ze L4) 76), some (.ro O2), some (.cells (Zb Ze L9) 63), some (.cells (Zb eI L10) 3), some (.cells (Zb eI L11) 3)]) (ob := [((y5_0 != (0 : Int)), true), (dP (ZU #[Value.agg #[vi a0, vi a1, vi a2, vi a3]] (a0) (a1) (a2) (a3)  y5_0  7), true), (((L4.length : Int) == (0 : Int)), false), ((a0 == (18 : Int)), true), ((a0 == (17 : Int)), false), ((a0 == (16 : Int)), false), ((a0 == (15 : Int)), false)]) (by kernel_rfl) (oD <| Za (Zf (Zab #[Value.agg #[vi a0, vi a1, vi a2, vi a3]] (a0) (a1) (a2) (a3)  y5_0 N c5  7 rfl (by decide) (by decide))) <| oF <| oT <| oF <| oF <| oF Zd) rfl (by decide) (by rfl) rr ⟨⟨rfl, ⟨[], by rfl⟩, by rfl⟩, ⟨(Zg (E := Ze) (α := R_ii) _ L4 _), ⟨rfl, ⟨(Zg (E := Ze) (α := R_ii) _ L9 _), ⟨(Zg (E := eI) (α := Int) _ L10 _), ⟨(Zg (E := eI) (α := Int) _ L11 _), trivial⟩⟩⟩⟩⟩⟩
       ·
        exact Zk (r := (.r0 ((0 : Int)) : Zq)) (fu := 4000) (orc := (Zi [(0, false), (1, false), (2, false), (3, true), (4, false), (5, false)] [] [] [] [(0, (Zaa (a0) (a1) (a2) (a3)  y5_0  7))])) (live := [0, 1, 2, 3, 4, 5]) (u := v0) (bl := [some (.cells [vs 1 0 L4.length L4.length, vs 2 o5 n7 n8, vs 3 0 L9.length L9.length, vs 4 0 L10.length L10.length, vs 5 0 L11.length L11.length, vi a12, vi a13, vi a14] 50), some (.cells (Zb Ze L4) 76), some (.ro O2), some (.cells (Zb Ze L9) 63), some (.cells (Zb eI L10) 3), some (.cells (Zb eI L11) 3)]) (ob := [((y5_0 != (0 : Int)), false), (dP (ZU #[Value.agg #[vi a0, vi a1, vi a2, vi a3]] (a0) (a1) (a2) (a3)  y5_0  7), true), (((L4.length : Int) == (0 : Int)), false), ((a0 == (18 : Int)), true), ((a0 == (17 : Int)), false), ((a0 == (16 : Int)), false), ((a0 == (15 : Int)), false)]) (by kernel_rfl) (oE <| Za (Zf (Zab #[Value.agg #[vi a0, vi a1, vi a2, vi a3]] (a0) (a1) (a2) (a3)  y5_0 N c5  7 rfl (by decide) (by decide))) <| oF <| oT <| oF <| oF <| oF Zd) rfl (by decide) (by rfl) rr ⟨⟨rfl, ⟨[], by rfl⟩, by rfl⟩, ⟨(Zg (E := Ze) (α := R_ii) _ L4 _), ⟨rfl, ⟨(Zg (E := Ze) (α := R_ii) _ L9 _), ⟨(Zg (E := eI) (α := Int) _ L10 _), ⟨(Zg (E := eI) (α := Int) _ L11 _), trivial⟩⟩⟩⟩⟩⟩
    ·
     refine Zm (fun g4 => ?_) (fun g4 => ?_)
     ·
      refine Zm (fun g5 => ?_) (fun g5 => ?_)
      ·
       exact Zk (r := (.r0 ((120 : Int)) : Zq)) (fu := 4000) (orc := (Zi [(0, false), (1, false), (2, false), (3, false), (4, true), (5, true)] [] [] [] [])) (live := [0, 1, 2, 3, 4, 5]) (u := vi (120 : Int)) (bl := [some (.cells [vs 1 0 L4.length L4.length, vs 2 o5 n7 n8, vs 3 0 L9.length L9.length, vs 4 0 L10.length L10.length, vs 5 0 L11.length L11.length, vi a12, vi a13, vi a14] 50), some (.cells (Zb Ze L4) 76), some (.ro O2), some (.cells (Zb Ze L9) 63), some (.cells (Zb eI L10) 3), some (.cells (Zb eI L11) 3)]) (ob := [((decide ((L4.length : Int) > (0 : Int))), true), ((a0 == (20 : Int)), true), ((a0 == (18 : Int)), false), ((a0 == (17 : Int)), false), ((a0 == (16 : Int)), false), ((a0 == (15 : Int)), false)]) (by kernel_rfl) (oY <| oT <| oF <| oF <| oF <| oF Zd) rfl (by decide) (by rfl) rr ⟨⟨rfl, ⟨[], by rfl⟩, by rfl⟩, ⟨(Zg (E := Ze) (α := R_ii) _ L4 _), ⟨rfl, ⟨(Zg (E := Ze) (α := R_ii) _ L9 _), ⟨(Zg (E := eI) (α := Int) _ L10 _), ⟨(Zg (E := eI) (α := Int) _ L11 _), trivial⟩⟩⟩⟩⟩⟩
      ·
       refine Za4 (fun z6 c6 => ?_)
       cases z6 with
       | r0 y6_0 =>
        refine Zm (fun g7 => ?_) (fun g7 => ?_)
        ·
         exact Zk (r := (.r0 ((120 : Int)) : Zq)) (fu := 4000) (orc := (Zi [(0, false), (1, false), (2, false), (3, false), (4, true), (5, false), (6, true)] [] [] [] [(0, (Zaa (a0) (a1) (a2) (a3)  y6_0  7))])) (live := [0, 1, 2, 3, 4, 5]) (u := vi (120 : Int)) (bl := [some (.cells [vs 1 0 L4.length L4.length, vs 2 o5 n7 n8, vs 3 0 L9.length L9.length, vs 4 0 L10.length L10.length, vs 5 0 L11.length L11.length, vi a12, vi a13, vi a14] 50), some (.cells (Zb Ze L4) 76), some (.ro O2), some (.cells (Zb Ze L9) 63), some (.cells (Zb eI L10) 3), some (.cells (Zb eI L11) 3)]) (ob := [((y6_0 != (0 : Int)), true), (dP (ZU #[Value.agg #[vi a0, vi a1, vi a2, vi a3]] (a0) (a1) (a2) (a3)  y6_0  7), true), ((decide ((L4.length : Int) > (0 : Int))), false), ((a0 == (20 : Int)), true), ((a0 == (18 : Int)), false), ((a0 == (17 : Int)), false), ((a0 == (16 : Int)), false), ((a0 == (15 : Int)), false)]) (by kernel_rfl) (oD <| Za (Zf (Zab #[Value.agg #[vi a0, vi a1, vi a2, vi a3]] (a0) (a1) (a2) (a3)  y6_0 N c6  7 rfl (by decide) (by decide))) <| oN <| oT <| oF <| oF <| oF <| oF Zd) rfl (by decide) (by rfl) rr ⟨⟨rfl, ⟨[], by rfl⟩, by rfl⟩, ⟨(Zg (E := Ze) (α := R_ii) _ L4 _), ⟨rfl, ⟨(Zg (E := Ze) (α := R_ii) _ L9 _), ⟨(Zg (E := eI) (α := Int) _ L10 _), ⟨(Zg (E := eI) (α := Int) _ L11 _), trivial⟩⟩⟩⟩⟩⟩
        ·
         exact Zk (r := (.r0 ((0 : Int)) : Zq)) (fu := 4000) (orc := (Zi [(0, false), (1, false), (2, false), (3, false), (4, true), (5, false), (6, false)] [] [] [] [(0, (Zaa (a0) (a1) (a2) (a3)  y6_0  7))])) (live := [0, 1, 2, 3, 4, 5]) (u := v0) (bl := [some (.cells [vs 1 0 L4.length L4.length, vs 2 o5 n7 n8, vs 3 0 L9.length L9.length, vs 4 0 L10.length L10.length, vs 5 0 L11.length L11.length, vi a12, vi a13, vi a14] 50), some (.cells (Zb Ze L4) 76), some (.ro O2), some (.cells (Zb Ze L9) 63), some (.cells (Zb eI L10) 3), some (.cells (Zb eI L11) 3)]) (ob := [((y6_0 != (0 : Int)), false), (dP (ZU #[Value.agg #[vi a0, vi a1, vi a2, vi a3]] (a0) (a1) (a2) (a3)  y6_0  7), true), ((decide ((L4.length : Int) > (0 : Int))), false), ((a0 == (20 : Int)), true), ((a0 == (18 : Int)), false), ((a0 == (17 : Int)), false), ((a0 == (16 : Int)), false), ((a0 == (15 : Int)), false)]) (by kernel_rfl) (oE <| Za (Zf (Zab #[Value.agg #[vi a0, vi a1, vi a2, vi a3]] (a0) (a1) (a2) (a3)  y6_0 N c6  7 rfl (by decide) (by decide))) <| oN <| oT <| oF <| oF <| oF <| oF Zd) rfl (by decide) (by rfl) rr ⟨⟨rfl, ⟨[], by rfl⟩, by rfl⟩, ⟨(Zg (E := Ze) (α := R_ii) _ L4 _), ⟨rfl, ⟨(Zg (E := Ze) (α := R_ii) _ L9 _), ⟨(Zg (E := eI) (α := Int) _ L10 _), ⟨(Zg (E := eI) (α := Int) _ L11 _), trivial⟩⟩⟩⟩⟩⟩
     ·
      refine Za4 (fun z5 c5 => ?_)
      cases z5 with
      | r0 y5_0 =>
       refine Zm (fun g6 => ?_) (fun g6 => ?_)
       ·
        exact Zk (r := (.r0 ((120 : Int)) : Zq)) (fu := 4000) (orc := (Zi [(0, false), (1, false), (2, false), (3, false), (4, false), (5, true)] [] [] [] [(0, (Zaa (a0) (a1) (a2) (a3)  y5_0  7))])) (live := [0, 1, 2, 3, 4, 5]) (u := vi (120 : Int)) (bl := [some (.cells [vs 1 0 L4.length L4.length, vs 2 o5 n7 n8, vs 3 0 L9.length L9.length, vs 4 0 L10.length L10.length, vs 5 0 L11.length L11.length, vi a12, vi a13, vi a14] 50), some (.cells (Zb Ze L4) 76), some (.ro O2), some (.cells (Zb Ze L9) 63), some (.cells (Zb eI L10) 3), some (.cells (Zb eI L11) 3)]) (ob := [((y5_0 != (0 : Int)), true), (dP (ZU #[Value.agg #[vi a0, vi a1, vi a2, vi a3]] (a0) (a1) (a2) (a3)  y5_0  7), true), ((a0 == (20 : Int)), false), ((a0 == (18 : Int)), false), ((a0 == (17 : Int)), false), ((a0 == (16 : Int)), false), ((a0 == (15 : Int)), false)]) (by kernel_rfl) (oD <| Za (Zf (Zab #[Value.agg #[vi a0, vi a1, vi a2, vi a3]] (a0) (a1) (a2) (a3)  y5_0 N c5  7 rfl (by decide) (by decide))) <| oF <| oF <| oF <| oF <| oF Zd) rfl (by decide) (by rfl) rr ⟨⟨rfl, ⟨[], by rfl⟩, by rfl⟩, ⟨(Zg (E := Ze) (α := R_ii) _ L4 _), ⟨rfl, ⟨(Zg (E := Ze) (α := R_ii) _ L9 _), ⟨(Zg (E := eI) (α := Int) _ L10 _), ⟨(Zg (E := eI) (α := Int) _ L11 _), trivial⟩⟩⟩⟩⟩⟩
       ·
        exact Zk (r := (.r0 ((0 : Int)) : Zq)) (fu := 4000) (orc := (Zi [(0, false), (1, false), (2, false), (3, false), (4, false), (5, false)] [] [] [] [(0, (Zaa (a0) (a1) (a2) (a3)  y5_0  7))])) (live := [0, 1, 2, 3, 4, 5]) (u := v0) (bl := [some (.cells [vs 1 0 L4.length L4.length, vs 2 o5 n7 n8, vs 3 0 L9.length L9.length, vs 4 0 L10.length L10.length, vs 5 0 L11.length L11.length, vi a12, vi a13, vi a14] 50), some (.cells (Zb Ze L4) 76), some (.ro O2), some (.cells (Zb Ze L9) 63), some (.cells (Zb eI L10) 3), some (.cells (Zb eI L11) 3)]) (ob := [((y5_0 != (0 : Int)), false), (dP (ZU #[Value.agg #[vi a0, vi a1, vi a2, vi a3]] (a0) (a1) (a2) (a3)  y5_0  7), true), ((a0 == (20 : Int)), false), ((a0 == (18 : Int)), false), ((a0 == (17 : Int)), false), ((a0 == (16 : Int)), false), ((a0 == (15 : Int)), false)]) (by kernel_rfl) (oE <| Za (Zf (Zab #[Value.agg #[vi a0, vi a1, vi a2, vi a3]] (a0) (a1) (a2) (a3)  y5_0 N c5  7 rfl (by decide) (by decide))) <| oF <| oF <| oF <| oF <| oF Zd) rfl (by decide) (by rfl) rr ⟨⟨rfl, ⟨[], by rfl⟩, by rfl⟩, ⟨(Zg (E := Ze) (α := R_ii) _ L4 _), ⟨rfl, ⟨(Zg (E := Ze) (α := R_ii) _ L9 _), ⟨(Zg (E := eI) (α := Int) _ L10 _), ⟨(Zg (E := eI) (α := Int) _ L11 _), trivial⟩⟩⟩⟩⟩⟩

theorem Zj7 (a0 a1 a2 a3 : Int) (L4 : List R_ii) (o5 : Nat) (L6 : List R_iiii) (n7 n8 : Nat) (L9 : List R_ii) (L10 L11 : List Int) (a12 a13 a14 : Int) (O2 : Obj) (F2 : Zs O2 o5 L6) (N : Nat) (r : Zq) (h : Zcf a0 a1 a2 a3 L4 L6 n7 n8 L9 L10 L11 a12 a13 a14 N = some r) : LSpec Try.prog 34 #[vp 0 0, Value.agg #[vi a0, vi a1, vi a2, vi a3]] [.cells [vs 1 0 L4.length L4.length, vs 2 o5 n7 n8, vs 3 0 L9.length L9.length, vs 4 0 L10.length L10.length, vs 5 0 L11.length L11.length, vi a12, vi a13, vi a14] 50, .cells (Zb Ze L4) 76, .ro O2, .cells (Zb Ze L9) 63, .cells (Zb eI L10) 3, .cells (Zb eI L11) 3] (Zhx a0 a1 a2 a3 L4 o5 L6 n7 n8 L9 L10 L11 a12 a13 a14 O2 r) (Zhh a0 a1 a2 a3 L4 o5 L6 n7 n8 L9 L10 L11 a12 a13 a14 O2 r) :=
 ZaB Zao Try.func34 (by kernel_rfl) (by kernel_rfl) (fun r => by cases r <;> exact ZN _ rfl) (ZkB a0 a1 a2 a3 L4 o5 L6 n7 n8 L9 L10 L11 a12 a13 a14 O2 F2 N) h

noncomputable def ZdW (a0 a1 a2 a3 : Int) (L4 : List R_ii) (o5 : Nat) (L6 : List R_iiii) (n7 n8 : Nat) (L9 : List R_ii) (L10 L11 : List Int) (a12 a13 a14 : Int) (O2 : Obj) (w6 : Int) (k0 k1 k2 k3 k4 k5 n : Nat) : Zak := .call [(k0, .cells [vs k1 0 L4.length L4.length, vs k2 o5 n7 n8, vs k3 0 L9.length L9.length, vs k4 0 L10.length L10.length, vs k5 0 L11.length L11.length, vi a12, vi a13, vi a14] 50), (k1, .cells (Zb Ze L4) 76), (k2, .ro O2), (k3, .cells (Zb Ze L9) 63), (k4, .cells (Zb eI L10) 3), (k5, .cells (Zb eI L11) 3)] (vi w6) [] 0
def Zdh (A : Array Value) (a0 a1 a2 a3 : Int) (L4 : List R_ii) (o5 : Nat) (L6 : List R_iiii) (n7 n8 : Nat) (L9 : List R_ii) (L10 L11 : List Int) (a12 a13 a14 : Int) (O2 : Obj) (w6 : Int) (k0 k1 k2 k3 k4 k5 n : Nat) : Prop := Zw Try.prog 34 A [(k0, .cells [vs k1 0 L4.length L4.length, vs k2 o5 n7 n8, vs k3 0 L9.length L9.length, vs k4 0 L10.length L10.length, vs k5 0 L11.length L11.length, vi a12, vi a13, vi a14] 50), (k1, .cells (Zb Ze L4) 76), (k2, .ro O2), (k3, .cells (Zb Ze L9) 63), (k4, .cells (Zb eI L10) 3), (k5, .cells (Zb eI L11) 3)] (vi w6) [] n 0

theorem ZdX (A : Array Value) (a0 a1 a2 a3 : Int) (L4 : List R_ii) (o5 : Nat) (L6 : List R_iiii) (n7 n8 : Nat) (L9 : List R_ii) (L10 L11 : List Int) (a12 a13 a14 : Int) (O2 : Obj) (F2 : Zs O2 o5 L6) (w6 : Int) (N : Nat) (h : Zcf a0 a1 a2 a3 L4 L6 n7 n8 L9 L10 L11 a12 a13 a14 N = some (.r0 w6)) (k0 k1 k2 k3 k4 k5 n : Nat) (hA : A = #[vp k0 0, Value.agg #[vi a0, vi a1, vi a2, vi a3]]) (hnd : ([k0, k1, k2, k3, k4, k5] : List Nat).Nodup) (hlt : ∀ k ∈ ([k0, k1, k2, k3, k4, k5] : List Nat), k < n) : Zdh A a0 a1 a2 a3 L4 o5 L6 n7 n8 L9 L10 L11 a12 a13 a14 O2 w6 k0 k1 k2 k3 k4 k5 n :=
 Z0 hA (LSpec.callL (show LSpec Try.prog 34 #[vp 0 0, Value.agg #[vi a0, vi a1, vi a2, vi a3]] [.cells [vs 1 0 L4.length L4.length, vs 2 o5 n7 n8, vs 3 0 L9.length L9.length, vs 4 0 L10.length L10.length, vs 5 0 L11.length L11.length, vi a12, vi a13, vi a14] 50, .cells (Zb Ze L4) 76, .ro O2, .cells (Zb Ze L9) 63, .cells (Zb eI L10) 3, .cells (Zb eI L11) 3] (vi w6) [some (.cells [vs 1 0 L4.length L4.length, vs 2 o5 n7 n8, vs 3 0 L9.length L9.length, vs 4 0 L10.length L10.length, vs 5 0 L11.length L11.length, vi a12, vi a13, vi a14] 50), some (.cells (Zb Ze L4) 76), some (.ro O2), some (.cells (Zb Ze L9) 63), some (.cells (Zb eI L10) 3), some (.cells (Zb eI L11) 3)] from Zj7 a0 a1 a2 a3 L4 o5 L6 n7 n8 L9 L10 L11 a12 a13 a14 O2 F2 N _ h) [k0, k1, k2, k3, k4, k5] n [] rfl hnd hlt (show 6 ≤ 6 from by decide) (show ∀ j ∈ ([] : List Nat), j < 6 from by decide) (by rfl) ⟨rfl, ⟨(Zp _ _ _), ⟨rfl, ⟨(Zp _ _ _), ⟨(Zp _ _ _), ⟨(Zp _ _ _), trivial⟩⟩⟩⟩⟩⟩ (by rfl) ⟨rfl, ⟨(Zp _ _ _), ⟨rfl, ⟨(Zp _ _ _), ⟨(Zp _ _ _), ⟨(Zp _ _ _), trivial⟩⟩⟩⟩⟩⟩ ⟨.inr rfl, ⟨.inr rfl, ⟨.inr rfl, ⟨.inr rfl, ⟨.inr rfl, ⟨.inr rfl, trivial⟩⟩⟩⟩⟩⟩ rfl rfl rfl (Zc (Zn rfl rfl) (Zc (Zn rfl (Zy _ _ _)) (Zc (Zn rfl rfl) (Zc (Zn rfl (Zy _ _ _)) (Zc (Zn rfl (Zy _ _ _)) (Zc (Zn rfl (Zy _ _ _)) rfl)))))) rfl)

noncomputable def Zhi (L0 : List R_ii) (o1 : Nat) (L2 : List R_iiii) (n3 n4 : Nat) (L5 : List R_ii) (L6 L7 : List Int) (a8 a9 a10 : Int) (O2 : Obj) : ZaX → Value
 | .r0 w6 w7 => Value.agg #[vi w6, vi w7]
noncomputable def ZgM (L0 : List R_ii) (o1 : Nat) (L2 : List R_iiii) (n3 n4 : Nat) (L5 : List R_ii) (L6 L7 : List Int) (a8 a9 a10 : Int) (O2 : Obj) : ZaX → List (Option AObj)
 | .r0 w6 w7 => [some (.cells [vs 1 0 L0.length L0.length, vs 2 o1 n3 n4, vs 3 0 L5.length L5.length, vs 4 0 L6.length L6.length, vs 5 0 L7.length L7.length, vi a8, vi a9, vi a10] 50), some (.cells (Zb Ze L0) 76), some (.ro O2), some (.cells (Zb Ze L5) 63), some (.cells (Zb eI L6) 3), some (.cells (Zb eI L7) 3)]

theorem ZjT (L0 : List R_ii) (o1 : Nat) (L2 : List R_iiii) (n3 n4 : Nat) (L5 : List R_ii) (L6 L7 : List Int) (a8 a9 a10 : Int) (O2 : Obj) (F2 : Zs O2 o1 L2) (N : Nat) : Fx Try.prog Zr Try.f43 [.cells [vs 1 0 L0.length L0.length, vs 2 o1 n3 n4, vs 3 0 L5.length L5.length, vs 4 0 L6.length L6.length, vs 5 0 L7.length L7.length, vi a8, vi a9, vi a10] 50, .cells (Zb Ze L0) 76, .ro O2, .cells (Zb Ze L5) 63, .cells (Zb eI L6) 3, .cells (Zb eI L7) 3] #[vp 0 0] (Zhi L0 o1 L2 n3 n4 L5 L6 L7 a8 a9 a10 O2) (ZgM L0 o1 L2 n3 n4 L5 L6 L7 a8 a9 a10 O2) (Zbm L0 L2 n3 n4 L5 L6 L7 a8 a9 a10 N) := by
 unfold Zbm
 refine Zm (fun g0 => ?_) (fun g0 => ?_)
 ·
  exact Zk (r := (.r0 ((-1 : Int)) ((0 : Int)) : ZaX)) (fu := 4000) (orc := (Zi [(0, true)] [] [] [] [])) (live := [0, 1, 2, 3, 4, 5]) (u := Value.agg #[vi (-1 : Int), v0]) (bl := [some (.cells [vs 1 0 L0.length L0.length, vs 2 o1 n3 n4, vs 3 0 L5.length L5.length, vs 4 0 L6.length L6.length, vs 5 0 L7.length L7.length, vi a8, vi a9, vi a10] 50), some (.cells (Zb Ze L0) 76), some (.ro O2), some (.cells (Zb Ze L5) 63), some (.cells (Zb eI L6) 3), some (.cells (Zb eI L7) 3)]) (ob := [(((L0.length : Int) == (0 : Int)), true)]) (by kernel_rfl) (oT Zd) rfl (by decide) (by rfl) rr ⟨⟨rfl, ⟨[], by rfl⟩, by rfl⟩, ⟨(Zg (E := Ze) (α := R_ii) _ L0 _), ⟨rfl, ⟨(Zg (E := Ze) (α := R_ii) _ L5 _), ⟨(Zg (E := eI) (α := Int) _ L6 _), ⟨(Zg (E := eI) (α := Int) _ L7 _), trivial⟩⟩⟩⟩⟩⟩
 ·
  refine Zm (fun g1 => ?_) (fun g1 => ?_)
  ·
   refine Zm (fun g2 => ?_) (fun g2 => ?_)
   ·
    exact Zk (r := (.r0 ((L0.getD (L0.length - 1) R_ii.z).a0) ((1 : Int)) : ZaX)) (fu := 4000) (orc := (Zi [(0, false), (1, true)] [(0, (((L0.length - 1) : Nat) : Int))] [(0, (L0.length - 1))] [(3, [.i (L0.getD (L0.length - 1) R_ii.z).a1]), (4, [.i (L0.getD (L0.length - 1) R_ii.z).a0])] [])) (live := [0, 1, 2, 3, 4, 5]) (u := Value.agg #[vi (L0.getD (L0.length - 1) R_ii.z).a0, vi (1 : Int)]) (bl := [some (.cells [vs 1 0 L0.length L0.length, vs 2 o1 n3 n4, vs 3 0 L5.length L5.length, vs 4 0 L6.length L6.length, vs 5 0 L7.length L7.length, vi a8, vi a9, vi a10] 50), some (.cells (Zb Ze L0) 76), some (.ro O2), some (.cells (Zb Ze L5) 63), some (.cells (Zb eI L6) 3), some (.cells (Zb eI L7) 3)]) (ob := [(Zz (Z7 1 (List.drop ((0 + ((L0.length - 1) * 2)) + 0) (Zb Ze L0))) [.i (L0.getD (L0.length - 1) R_ii.z).a0], true), ((decide ((L0.getD (L0.length - 1) R_ii.z).a1 ≥ (0 : Int))), true), (Zz (Z7 1 (List.drop ((0 + ((L0.length - 1) * 2)) + 1) (Zb Ze L0))) [.i (L0.getD (L0.length - 1) R_ii.z).a1], true), (Nat.blt (L0.length - 1) L0.length, true), ((((L0.length - 1) : Nat) : Int) == Int.ofNat (L0.length - 1), true), ((IntKind.i64.wrap ((L0.length : Int) - (1 : Int))) == (((L0.length - 1) : Nat) : Int), true), (((L0.length : Int) == (0 : Int)), false)]) (by kernel_rfl) (Za (Zaq (E := Ze) (L := L0) (i := (L0.length - 1)) (q := 0) (by omega) (show ((0 + ((L0.length - 1) * 2)) + 0) = (L0.length - 1) * 2 + 0 from by omega) (show 0 + 1 ≤ 2 from by decide) rfl rfl) <| oY <| Za (Zaq (E := Ze) (L := L0) (i := (L0.length - 1)) (q := 1) (by omega) (show ((0 + ((L0.length - 1) * 2)) + 1) = (L0.length - 1) * 2 + 1 from by omega) (show 1 + 1 ≤ 2 from by decide) rfl rfl) <| oB <| oI <| Za (beq_iff_eq.2 ((wrap_i64 ltA).trans (by first | rfl | omega))) <| oF Zd) rfl (by decide) (by rfl) rr ⟨⟨rfl, ⟨[], by rfl⟩, by rfl⟩, ⟨(Zg (E := Ze) (α := R_ii) _ L0 _), ⟨rfl, ⟨(Zg (E := Ze) (α := R_ii) _ L5 _), ⟨(Zg (E := eI) (α := Int) _ L6 _), ⟨(Zg (E := eI) (α := Int) _ L7 _), trivial⟩⟩⟩⟩⟩⟩
   ·
    exact Zk (r := (.r0 ((L0.getD (L0.length - 1) R_ii.z).a0) ((0 : Int)) : ZaX)) (fu := 4000) (orc := (Zi [(0, false), (1, false)] [(0, (((L0.length - 1) : Nat) : Int))] [(0, (L0.length - 1))] [(3, [.i (L0.getD (L0.length - 1) R_ii.z).a1]), (4, [.i (L0.getD (L0.length - 1) R_ii.z).a0])] [])) (live := [0, 1, 2, 3, 4, 5]) (u := Value.agg #[vi (L0.getD (L0.length - 1) R_ii.z).a0, v0]) (bl := [some (.cells [vs 1 0 L0.length L0.length, vs 2 o1 n3 n4, vs 3 0 L5.length L5.length, vs 4 0 L6.length L6.length, vs 5 0 L7.length L7.length, vi a8, vi a9, vi a10] 50), some (.cells (Zb Ze L0) 76), some (.ro O2), some (.cells (Zb Ze L5) 63), some (.cells (Zb eI L6) 3), some (.cells (Zb eI L7) 3)]) (ob := [(Zz (Z7 1 (List.drop ((0 + ((L0.length - 1) * 2)) + 0) (Zb Ze L0))) [.i (L0.getD (L0.length - 1) R_ii.z).a0], true), ((decide ((L0.getD (L0.length - 1) R_ii.z).a1 ≥ (0 : Int))), false), (Zz (Z7 1 (List.drop ((0 + ((L0.length - 1) * 2)) + 1) (Zb Ze L0))) [.i (L0.getD (L0.length - 1) R_ii.z).a1], true), (Nat.blt (L0.length - 1) L0.length, true), ((((L0.length - 1) : Nat) : Int) == Int.ofNat (L0.length - 1), true), ((IntKind.i64.wrap ((L0.length : Int) - (1 : Int))) == (((L0.length - 1) : Nat) : Int), true), (((L0.length : Int) == (0 : Int)), false)]) (by kernel_rfl) (Za (Zaq (E := Ze) (L := L0) (i := (L0.length - 1)) (q := 0) (by omega) (show ((0 + ((L0.length - 1) * 2)) + 0) = (L0.length - 1) * 2 + 0 from by omega) (show 0 + 1 ≤ 2 from by decide) rfl rfl) <| oN <| Za (Zaq (E := Ze) (L := L0) (i := (L0.length - 1)) (q := 1) (by omega) (show ((0 + ((L0.length - 1) * 2)) + 1) = (L0.length - 1) * 2 + 1 from by omega) (show 1 + 1 ≤ 2 from by decide) rfl rfl) <| oB <| oI <| Za (beq_iff_eq.2 ((wrap_i64 ltA).trans (by first | rfl | omega))) <| oF Zd) rfl (by decide) (by rfl) rr ⟨⟨rfl, ⟨[], by rfl⟩, by rfl⟩, ⟨(Zg (E := Ze) (α := R_ii) _ L0 _), ⟨rfl, ⟨(Zg (E := Ze) (α := R_ii) _ L5 _), ⟨(Zg (E := eI) (α := Int) _ L6 _), ⟨(Zg (E := eI) (α := Int) _ L7 _), trivial⟩⟩⟩⟩⟩⟩
  ·
   exact Za6

theorem Zjf (L0 : List R_ii) (o1 : Nat) (L2 : List R_iiii) (n3 n4 : Nat) (L5 : List R_ii) (L6 L7 : List Int) (a8 a9 a10 : Int) (O2 : Obj) (F2 : Zs O2 o1 L2) (N : Nat) (r : ZaX) (h : Zbm L0 L2 n3 n4 L5 L6 L7 a8 a9 a10 N = some r) : LSpec Try.prog 43 #[vp 0 0] [.cells [vs 1 0 L0.length L0.length, vs 2 o1 n3 n4, vs 3 0 L5.length L5.length, vs 4 0 L6.length L6.length, vs 5 0 L7.length L7.length, vi a8, vi a9, vi a10] 50, .cells (Zb Ze L0) 76, .ro O2, .cells (Zb Ze L5) 63, .cells (Zb eI L6) 3, .cells (Zb eI L7) 3] (Zhi L0 o1 L2 n3 n4 L5 L6 L7 a8 a9 a10 O2 r) (ZgM L0 o1 L2 n3 n4 L5 L6 L7 a8 a9 a10 O2 r) :=
 ZaB Zao Try.func43 (by kernel_rfl) (by kernel_rfl) (fun r => by cases r <;> exact ZN _ rfl) (ZjT L0 o1 L2 n3 n4 L5 L6 L7 a8 a9 a10 O2 F2 N) h

noncomputable def ZbZ (L0 : List R_ii) (o1 : Nat) (L2 : List R_iiii) (n3 n4 : Nat) (L5 : List R_ii) (L6 L7 : List Int) (a8 a9 a10 : Int) (O2 : Obj) (w6 w7 : Int) (k0 k1 k2 k3 k4 k5 n : Nat) : Zak := .call [(k0, .cells [vs k1 0 L0.length L0.length, vs k2 o1 n3 n4, vs k3 0 L5.length L5.length, vs k4 0 L6.length L6.length, vs k5 0 L7.length L7.length, vi a8, vi a9, vi a10] 50), (k1, .cells (Zb Ze L0) 76), (k2, .ro O2), (k3, .cells (Zb Ze L5) 63), (k4, .cells (Zb eI L6) 3), (k5, .cells (Zb eI L7) 3)] (Value.agg #[vi w6, vi w7]) [] 0
def Zb8 (A : Array Value) (L0 : List R_ii) (o1 : Nat) (L2 : List R_iiii) (n3 n4 : Nat) (L5 : List R_ii) (L6 L7 : List Int) (a8 a9 a10 : Int) (O2 : Obj) (w6 w7 : Int) (k0 k1 k2 k3 k4 k5 n : Nat) : Prop := Zw Try.prog 43 A [(k0, .cells [vs k1 0 L0.length L0.length, vs k2 o1 n3 n4, vs k3 0 L5.length L5.length, vs k4 0 L6.length L6.length, vs k5 0 L7.length L7.length, vi a8, vi a9, vi a10] 50), (k1, .cells (Zb Ze L0) 76), (k2, .ro O2), (k3, .cells (Zb Ze L5) 63), (k4, .cells (Zb eI L6) 3), (k5, .cells (Zb eI L7) 3)] (Value.agg #[vi w6, vi w7]) [] n 0

theorem Zca (A : Array Value) (L0 : List R_ii) (o1 : Nat) (L2 : List R_iiii) (n3 n4 : Nat) (L5 : List R_ii) (L6 L7 : List Int) (a8 a9 a10 : Int) (O2 : Obj) (F2 : Zs O2 o1 L2) (w6 w7 : Int) (N : Nat) (h : Zbm L0 L2 n3 n4 L5 L6 L7 a8 a9 a10 N = some (.r0 w6 w7)) (k0 k1 k2 k3 k4 k5 n : Nat) (hA : A = #[vp k0 0]) (hnd : ([k0, k1, k2, k3, k4, k5] : List Nat).Nodup) (hlt : ∀ k ∈ ([k0, k1, k2, k3, k4, k5] : List Nat), k < n) : Zb8 A L0 o1 L2 n3 n4 L5 L6 L7 a8 a9 a10 O2 w6 w7 k0 k1 k2 k3 k4 k5 n :=
 Z0 hA (LSpec.callL (show LSpec Try.prog 43 #[vp 0 0] [.cells [vs 1 0 L0.length L0.length, vs 2 o1 n3 n4, vs 3 0 L5.length L5.length, vs 4 0 L6.length L6.length, vs 5 0 L7.length L7.length, vi a8, vi a9, vi a10] 50, .cells (Zb Ze L0) 76, .ro O2, .cells (Zb Ze L5) 63, .cells (Zb eI L6) 3, .cells (Zb eI L7) 3] (Value.agg #[vi w6, vi w7]) [some (.cells [vs 1 0 L0.length L0.length, vs 2 o1 n3 n4, vs 3 0 L5.length L5.length, vs 4 0 L6.length L6.length, vs 5 0 L7.length L7.length, vi a8, vi a9, vi a10] 50), some (.cells (Zb Ze L0) 76), some (.ro O2), some (.cells (Zb Ze L5) 63), some (.cells (Zb eI L6) 3), some (.cells (Zb eI L7) 3)] from Zjf L0 o1 L2 n3 n4 L5 L6 L7 a8 a9 a10 O2 F2 N _ h) [k0, k1, k2, k3, k4, k5] n [] rfl hnd hlt (show 6 ≤ 6 from by decide) (show ∀ j ∈ ([] : List Nat), j < 6 from by decide) (by rfl) ⟨rfl, ⟨(Zp _ _ _), ⟨rfl, ⟨(Zp _ _ _), ⟨(Zp _ _ _), ⟨(Zp _ _ _), trivial⟩⟩⟩⟩⟩⟩ (by rfl) ⟨rfl, ⟨(Zp _ _ _), ⟨rfl, ⟨(Zp _ _ _), ⟨(Zp _ _ _), ⟨(Zp _ _ _), trivial⟩⟩⟩⟩⟩⟩ ⟨.inr rfl, ⟨.inr rfl, ⟨.inr rfl, ⟨.inr rfl, ⟨.inr rfl, ⟨.inr rfl, trivial⟩⟩⟩⟩⟩⟩ rfl rfl rfl (Zc (Zn rfl rfl) (Zc (Zn rfl (Zy _ _ _)) (Zc (Zn rfl rfl) (Zc (Zn rfl (Zy _ _ _)) (Zc (Zn rfl (Zy _ _ _)) (Zc (Zn rfl (Zy _ _ _)) rfl)))))) rfl)

noncomputable def Zj8 (L0 : List R_ii) (o1 : Nat) (L2 : List R_iiii) (n3 n4 : Nat) (L5 : List R_ii) (L6 L7 : List Int) (a8 a9 a10 : Int) (O2 : Obj) : ZdF → Value
 | .r0 => vtt
noncomputable def ZiK (L0 : List R_ii) (o1 : Nat) (L2 : List R_iiii) (n3 n4 : Nat) (L5 : List R_ii) (L6 L7 : List Int) (a8 a9 a10 : Int) (O2 : Obj) : ZdF → List (Option AObj)
 | .r0 => [some (.cells [vs 6 0 (L0.take (((L0.length : Int) - (1 : Int))).toNat).length (L0.take (((L0.length : Int) - (1 : Int))).toNat).length, vs 2 o1 n3 n4, vs 3 0 L5.length L5.length, vs 4 0 L6.length L6.length, vs 5 0 L7.length L7.length, vi a8, vi a9, vi a10] 50), none, some (.ro O2), some (.cells (Zb Ze L5) 63), some (.cells (Zb eI L6) 3), some (.cells (Zb eI L7) 3), some (.cells (Zb Ze (L0.take (((L0.length : Int) - (1 : Int))).toNat)) 76)]

theorem ZnK (L0 : List R_ii) (o1 : Nat) (L2 : List R_iiii) (n3 n4 : Nat) (L5 : List R_ii) (L6 L7 : List Int) (a8 a9 a10 : Int) (O2 : Obj) (F2 : Zs O2 o1 L2) (N : Nat) : Fx Try.prog Zr Try.f45 [.cells [vs 1 0 L0.length L0.length, vs 2 o1 n3 n4, vs 3 0 L5.length L5.length, vs 4 0 L6.length L6.length, vs 5 0 L7.length L7.length, vi a8, vi a9, vi a10] 50, .cells (Zb Ze L0) 76, .ro O2, .cells (Zb Ze L5) 63, .cells (Zb eI L6) 3, .cells (Zb eI L7) 3] #[vp 0 0] (Zj8 L0 o1 L2 n3 n4 L5 L6 L7 a8 a9 a10 O2) (ZiK L0 o1 L2 n3 n4 L5 L6 L7 a8 a9 a10 O2) (Zc9 L0 L2 n3 n4 L5 L6 L7 a8 a9 a10 N) := by
 unfold Zc9
 refine Zm (fun g0 => ?_) (fun g0 => ?_)
 ·
  refine Zm (fun g1 => ?_) (fun g1 => ?_)
  ·
   exact Zk (r := (.r0 : ZdF)) (fu := 4000) (orc := (Zi [] [(0, ((L0.length : Int) - (1 : Int)))] [] [] [(0, .cut (((L0.length : Int) - (1 : Int))).toNat (Zb Ze (L0.take (((L0.length : Int) - (1 : Int))).toNat)))])) (live := [0, 1, 2, 3, 4, 5, 6]) (u := vtt) (bl := [some (.cells [vs 6 0 (((L0.length : Int) - (1 : Int))).toNat (((L0.length : Int) - (1 : Int))).toNat, vs 2 o1 n3 n4, vs 3 0 L5.length L5.length, vs 4 0 L6.length L6.length, vs 5 0 L7.length L7.length, vi a8, vi a9, vi a10] 50), none, some (.ro O2), some (.cells (Zb Ze L5) 63), some (.cells (Zb eI L6) 3), some (.cells (Zb eI L7) 3), some (.cells (Zb Ze (L0.take (((L0.length : Int) - (1 : Int))).toNat)) 76)]) (ob := [(dP ((((L0.length : Int) - (1 : Int))).toNat ≤ L0.length ∧ 0 < 2 ∧ L0.length * 2 ≤ ((Zb Ze L0) : List Value).length ∧ List.take ((((L0.length : Int) - (1 : Int))).toNat * 2) (Zb Ze L0) = (Zb Ze (L0.take (((L0.length : Int) - (1 : Int))).toNat))), true), (((L0.length : Int) - (1 : Int)) == Int.ofNat (((L0.length : Int) - (1 : Int))).toNat, true), (dS 0, true), ((IntKind.i64.wrap ((L0.length : Int) - (1 : Int))) == ((L0.length : Int) - (1 : Int)), true)]) (by kernel_rfl) (Za (Zf ⟨ltA, by decide, Zr5 (E := Ze) (L := L0) (by omega) (show _ = _ * 2 from rfl), ZsV (E := Ze) (L := L0) (R := (L0.take (((L0.length : Int) - (1 : Int))).toNat)) (show _ = _ * 2 from rfl) rfl⟩) <| oI <| oR <| Za (beq_iff_eq.2 ((wrap_i64 ltA).trans (by first | rfl | omega))) Zd) rfl (by decide) (by rfl) rr ⟨⟨rfl, ⟨[], (show ([vs 6 0 (((L0.length : Int) - (1 : Int))).toNat (((L0.length : Int) - (1 : Int))).toNat, vs 2 o1 n3 n4, vs 3 0 L5.length L5.length, vs 4 0 L6.length L6.length, vs 5 0 L7.length L7.length, vi a8, vi a9, vi a10] : List Value) = _ from (Zc (Zad rfl eqA eqA) (Zc rfl (Zc rfl (Zc rfl (Zc rfl (Zc rfl (Zc rfl (Zc rfl rfl)))))))).symm)⟩, by rfl⟩, ⟨rfl, ⟨(Zg (E := Ze) (α := R_ii) _ L5 _), ⟨(Zg (E := eI) (α := Int) _ L6 _), ⟨(Zg (E := eI) (α := Int) _ L7 _), ⟨(Zg (E := Ze) (α := R_ii) _ (L0.take (((L0.length : Int) - (1 : Int))).toNat) _), trivial⟩⟩⟩⟩⟩⟩
  ·
   exact Za6
 ·
  exact Za6

theorem ZlP (L0 : List R_ii) (o1 : Nat) (L2 : List R_iiii) (n3 n4 : Nat) (L5 : List R_ii) (L6 L7 : List Int) (a8 a9 a10 : Int) (O2 : Obj) (F2 : Zs O2 o1 L2) (N : Nat) (r : ZdF) (h : Zc9 L0 L2 n3 n4 L5 L6 L7 a8 a9 a10 N = some r) : LSpec Try.prog 45 #[vp 0 0] [.cells [vs 1 0 L0.length L0.length, vs 2 o1 n3 n4, vs 3 0 L5.length L5.length, vs 4 0 L6.length L6.length, vs 5 0 L7.length L7.length, vi a8, vi a9, vi a10] 50, .cells (Zb Ze L0) 76, .ro O2, .cells (Zb Ze L5) 63, .cells (Zb eI L6) 3, .cells (Zb eI L7) 3] (Zj8 L0 o1 L2 n3 n4 L5 L6 L7 a8 a9 a10 O2 r) (ZiK L0 o1 L2 n3 n4 L5 L6 L7 a8 a9 a10 O2 r) :=
 ZaB Zao Try.func45 (by kernel_rfl) (by kernel_rfl) (fun r => by cases r <;> exact ZN _ rfl) (ZnK L0 o1 L2 n3 n4 L5 L6 L7 a8 a9 a10 O2 F2 N) h

noncomputable def ZiL (L0 : List R_ii) (o1 : Nat) (L2 : List R_iiii) (n3 n4 : Nat) (L5 : List R_ii) (L6 L7 : List Int) (a8 a9 a10 : Int) (O2 : Obj) (k0 k1 k2 k3 k4 k5 n : Nat) : Zak := .call [(k0, .cells [vs k1 0 L0.length L0.length, vs k2 o1 n3 n4, vs k3 0 L5.length L5.length, vs k4 0 L6.length L6.length, vs k5 0 L7.length L7.length, vi a8, vi a9, vi a10] 50), (k1, .cells (Zb Ze L0) 76), (k2, .ro O2), (k3, .cells (Zb Ze L5) 63), (k4, .cells (Zb eI L6) 3), (k5, .cells (Zb eI L7) 3)] (vtt) [(k0, some (.cells [vs n 0 (L0.take (((L0.length : Int) - (1 : Int))).toNat).length (L0.take (((L0.length : Int) - (1 : Int))).toNat).length, vs k2 o1 n3 n4, vs k3 0 L5.length L5.length, vs k4 0 L6.length L6.length, vs k5 0 L7.length L7.length, vi a8, vi a9, vi a10] 50)), (k1, none), (n, some (.cells (Zb Ze (L0.take (((L0.length : Int) - (1 : Int))).toNat)) 76))] 1
def ZgC (A : Array Value) (L0 : List R_ii) (o1 : Nat) (L2 : List R_iiii) (n3 n4 : Nat) (L5 : List R_ii) (L6 L7 : List Int) (a8 a9 a10 : Int) (O2 : Obj) (k0 k1 k2 k3 k4 k5 n : Nat) : Prop := Zw Try.prog 45 A [(k0, .cells [vs k1 0 L0.length L0.length, vs k2 o1 n3 n4, vs k3 0 L5.length L5.length, vs k4 0 L6.length L6.length, vs k5 0 L7.length L7.length, vi a8, vi a9, vi a10] 50), (k1, .cells (Zb Ze L0) 76), (k2, .ro O2), (k3, .cells (Zb Ze L5) 63), (k4, .cells (Zb eI L6) 3), (k5, .cells (Zb eI L7) 3)] (vtt) [(k0, some (.cells [vs n 0 (L0.take (((L0.length : Int) - (1 : Int))).toNat).length (L0.take (((L0.length : Int) - (1 : Int))).toNat).length, vs k2 o1 n3 n4, vs k3 0 L5.length L5.length, vs k4 0 L6.length L6.length, vs k5 0 L7.length L7.length, vi a8, vi a9, vi a10] 50)), (k1, none), (n, some (.cells (Zb Ze (L0.take (((L0.length : Int) - (1 : Int))).toNat)) 76))] n 1

theorem ZiM (A : Array Value) (L0 : List R_ii) (o1 : Nat) (L2 : List R_iiii) (n3 n4 : Nat) (L5 : List R_ii) (L6 L7 : List Int) (a8 a9 a10 : Int) (O2 : Obj) (F2 : Zs O2 o1 L2) (N : Nat) (h : Zc9 L0 L2 n3 n4 L5 L6 L7 a8 a9 a10 N = some (.r0)) (k0 k1 k2 k3 k4 k5 n : Nat) (hA : A = #[vp k0 0]) (hnd : ([k0, k1, k2, k3, k4, k5] : List Nat).Nodup) (hlt : ∀ k ∈ ([k0, k1, k2, k3, k4, k5] : List Nat), k < n) : ZgC A L0 o1 L2 n3 n4 L5 L6 L7 a8 a9 a10 O2 k0 k1 k2 k3 k4 k5 n :=
 Z0 hA (LSpec.callL (show LSpec Try.prog 45 #[vp 0 0] [.cells [vs 1 0 L0.length L0.length, vs 2 o1 n3 n4, vs 3 0 L5.length L5.length, vs 4 0 L6.length L6.length, vs 5 0 L7.length L7.length, vi a8, vi a9, vi a10] 50, .cells (Zb Ze L0) 76, .ro O2, .cells (Zb Ze L5) 63, .cells (Zb eI L6) 3, .cells (Zb eI L7) 3] (vtt) [some (.cells [vs 6 0 (L0.take (((L0.length : Int) - (1 : Int))).toNat).length (L0.take (((L0.length : Int) - (1 : Int))).toNat).length, vs 2 o1 n3 n4, vs 3 0 L5.length L5.length, vs 4 0 L6.length L6.length, vs 5 0 L7.length L7.length, vi a8, vi a9, vi a10] 50), none, some (.ro O2), some (.cells (Zb Ze L5) 63), some (.cells (Zb eI L6) 3), some (.cells (Zb eI L7) 3), some (.cells (Zb Ze (L0.take (((L0.length : Int) - (1 : Int))).toNat)) 76)] from ZlP L0 o1 L2 n3 n4 L5 L6 L7 a8 a9 a10 O2 F2 N _ h) [k0, k1, k2, k3, k4, k5] n [0, 1, 6] rfl hnd hlt (show 6 ≤ 7 from by decide) (show ∀ j ∈ ([0, 1, 6] : List Nat), j < 7 from by decide) (by rfl) ⟨rfl, ⟨(Zp _ _ _), ⟨rfl, ⟨(Zp _ _ _), ⟨(Zp _ _ _), ⟨(Zp _ _ _), trivial⟩⟩⟩⟩⟩⟩ (by rfl) ⟨rfl, ⟨rfl, ⟨(Zp _ _ _), ⟨(Zp _ _ _), ⟨(Zp _ _ _), ⟨(Zp _ _ _), trivial⟩⟩⟩⟩⟩⟩ ⟨.inl (by decide), ⟨.inl (by decide), ⟨.inr rfl, ⟨.inr rfl, ⟨.inr rfl, ⟨.inr rfl, ⟨(by decide), trivial⟩⟩⟩⟩⟩⟩⟩ rfl rfl rfl (Zc (Zn rfl rfl) (Zc (Zn rfl (Zy _ _ _)) (Zc (Zn rfl rfl) (Zc (Zn rfl (Zy _ _ _)) (Zc (Zn rfl (Zy _ _ _)) (Zc (Zn rfl (Zy _ _ _)) rfl)))))) (Zc (Zn rfl (Zac rfl)) (Zc (Zn rfl rfl) (Zc (Zn rfl (Zac (Zy _ _ _))) rfl))))

noncomputable def Zip (a0 a1 : Int) (L2 : List R_ii) (o3 : Nat) (L4 : List R_iiii) (n5 n6 : Nat) (L7 : List R_ii) (L8 L9 : List Int) (a10 a11 a12 : Int) (O2 : Obj) : Zar → Value
 | .r0 w5 => vtt
 | .r1 w3 w6 w7 w8 => vtt
 | .r2 w0 w6 w7 => vtt
noncomputable def Zh6 (a0 a1 : Int) (L2 : List R_ii) (o3 : Nat) (L4 : List R_iiii) (n5 n6 : Nat) (L7 : List R_ii) (L8 L9 : List Int) (a10 a11 a12 : Int) (O2 : Obj) : Zar → List (Option AObj)
 | .r0 w5 => [some (.cells [vs 6 0 (L2.length + 1) (L2.length + 1), vs 2 o3 n5 n6, vs 7 0 w5.length w5.length, vs 8 0 (L8.length + 1) (L8.length + 1), vs 9 0 (L9.length + 1) (L9.length + 1), vi (if (((L2.length + 1) : Nat) : Int) > a10 then (((L2.length + 1) : Nat) : Int) else a10), vi a11, vi a12] 50), none, some (.ro O2), none, none, none, some (.cells (Zb Ze (L2 ++ ([(⟨a0, (-1 : Int)⟩ : R_ii)] : List R_ii))) 76), some (.cells (Zb Ze w5) 63), some (.cells (Zb eI (L8 ++ [(-1 : Int)])) 3), some (.cells (Zb eI (L9 ++ ([a0] : List Int))) 3)]
 | .r1 w3 w6 w7 w8 => [some (.cells [vs 6 0 w3.length w3.length, vs 2 o3 n5 n6, vs 7 0 w6.length w6.length, vs 8 0 w7.length w7.length, vs 5 0 L9.length L9.length, vi w8, vi a11, vi a12] 50), none, some (.ro O2), none, none, some (.cells (Zb eI L9) 3), some (.cells (Zb Ze w3) 76), some (.cells (Zb Ze w6) 63), some (.cells (Zb eI w7) 3)]
 | .r2 w0 w6 w7 => [some (.cells [vs 1 0 w0.length w0.length, vs 2 o3 n5 n6, vs 6 0 w6.length w6.length, vs 7 0 w7.length w7.length, vs 5 0 L9.length L9.length, vi a10, vi a11, vi a12] 50), some (.cells (Zb Ze w0) 76), some (.ro O2), none, none, some (.cells (Zb eI L9) 3), some (.cells (Zb Ze w6) 63), some (.cells (Zb eI w7) 3)]

end Ev
end Go.Proofs.Ytpgbennpiihajaa
