/- Calls do what the plain functions say. -/
import Derived.Test.YtjfmadhcbgdakaaPba
namespace Go.Proofs.Ytjfmadhcbgdakaa
open Go.RowKit
namespace Ev
set_option linter.unusedVariables false
set_option maxRecDepth 100000
noncomputable def Zoq (a0 : Int) : ZC → Value
 | .r0 => Value.agg #[Value.string ⟨#[]⟩, vq, vq, vq]
 | .r1 => Value.agg #[Value.string ⟨#[99, 111, 110, 115, 116]⟩, vi (1 : Int), vi (6 : Int), vq]
 | .r2 => Value.agg #[Value.string ⟨#[110, 105, 108]⟩, vi (1 : Int), vq, vq]
 | .r3 => Value.agg #[Value.string ⟨#[109, 111, 118, 101]⟩, vi (1 : Int), vi (1 : Int), vq]
 | .r4 => Value.agg #[Value.string ⟨#[97, 100, 100]⟩, vi (1 : Int), vi (1 : Int), vi (1 : Int)]
 | .r5 => Value.agg #[Value.string ⟨#[115, 117, 98]⟩, vi (1 : Int), vi (1 : Int), vi (1 : Int)]
 | .r6 => Value.agg #[Value.string ⟨#[108, 101, 115, 115]⟩, vi (1 : Int), vi (1 : Int), vi (1 : Int)]
 | .r7 => Value.agg #[Value.string ⟨#[101, 113]⟩, vi (1 : Int), vi (1 : Int), vi (1 : Int)]
 | .r8 => Value.agg #[Value.string ⟨#[106, 117, 109, 112]⟩, vi (4 : Int), vq, vq]
 | .r9 => Value.agg #[Value.string ⟨#[106, 117, 109, 112, 122]⟩, vi (1 : Int), vi (4 : Int), vq]
 | .r10 => Value.agg #[Value.string ⟨#[114, 111, 111, 116]⟩, vi (1 : Int), vq, vq]
 | .r11 => Value.agg #[Value.string ⟨#[110, 101, 119]⟩, vi (1 : Int), vi (3 : Int), vi (5 : Int)]
 | .r12 => Value.agg #[Value.string ⟨#[102, 114, 101, 101]⟩, vi (1 : Int), vq, vq]
 | .r13 => Value.agg #[Value.string ⟨#[103, 101, 116]⟩, vi (1 : Int), vi (1 : Int), vi (2 : Int)]
 | .r14 => Value.agg #[Value.string ⟨#[115, 101, 116]⟩, vi (1 : Int), vi (2 : Int), vi (1 : Int)]
 | .r15 => Value.agg #[Value.string ⟨#[98, 101, 103, 105, 110]⟩, vq, vq, vq]
 | .r16 => Value.agg #[Value.string ⟨#[101, 108, 115, 101]⟩, vq, vq, vq]
 | .r17 => Value.agg #[Value.string ⟨#[101, 110, 100]⟩, vq, vq, vq]
 | .r18 => Value.agg #[Value.string ⟨#[114, 101, 116, 114, 121]⟩, vq, vq, vq]
 | .r19 => Value.agg #[Value.string ⟨#[101, 109, 105, 116]⟩, vi (1 : Int), vq, vq]
 | .r20 => Value.agg #[Value.string ⟨#[104, 97, 108, 116]⟩, vq, vq, vq]
noncomputable def ZmC (a0 : Int) : ZC → List (Option AObj)
 | .r0 => []
 | .r1 => []
 | .r2 => []
 | .r3 => []
 | .r4 => []
 | .r5 => []
 | .r6 => []
 | .r7 => []
 | .r8 => []
 | .r9 => []
 | .r10 => []
 | .r11 => []
 | .r12 => []
 | .r13 => []
 | .r14 => []
 | .r15 => []
 | .r16 => []
 | .r17 => []
 | .r18 => []
 | .r19 => []
 | .r20 => []

theorem ZqR (a0 : Int) (N : Nat) : Fx Try.prog Zj Try.f22 [] #[vi a0] (Zoq a0) (ZmC a0) (Zay a0 N) := by
 unfold Zay
 refine Zl (fun g0 => ?_) (fun g0 => ?_)
 ·
  exact Zk (r := (.r0 : ZC)) (fu := 4000) (orc := (Zh [(0, true)] [] [] [] [])) (live := []) (u := Value.agg #[Value.string ⟨#[]⟩, vq, vq, vq]) (bl := []) (ob := [((decide (a0 < (0 : Int))), true)]) (by kernel_rfl) (oY Zb) rfl (by decide) (by rfl) rr trivial
 ·
  refine Zl (fun g1 => ?_) (fun g1 => ?_)
  ·
   exact Zk (r := (.r0 : ZC)) (fu := 4000) (orc := (Zh [(0, false), (1, true)] [] [] [] [])) (live := []) (u := Value.agg #[Value.string ⟨#[]⟩, vq, vq, vq]) (bl := []) (ob := [((decide (a0 ≥ (21 : Int))), true), ((decide (a0 < (0 : Int))), false)]) (by kernel_rfl) (oY <| oN Zb) rfl (by decide) (by rfl) rr trivial
  ·
   refine Zl (fun g2 => ?_) (fun g2 => ?_)
   ·
    exact Zk (r := (.r0 : ZC)) (fu := 4000) (orc := (Zh [(0, false), (1, false)] [] [(0, 0)] [] [])) (live := []) (u := Value.agg #[Value.string ⟨#[]⟩, vq, vq, vq]) (bl := []) (ob := [(Nat.blt 0 21, true), (a0 == Int.ofNat 0, true), ((decide (a0 ≥ (21 : Int))), false), ((decide (a0 < (0 : Int))), false)]) (by kernel_rfl) (oB <| Za (beq_iff_eq.2 (show _ = ((0 : Nat) : Int) from by omega)) <| oN <| oN Zb) rfl (by decide) (by rfl) rr trivial
   ·
    refine Zl (fun g3 => ?_) (fun g3 => ?_)
    ·
     exact Zk (r := (.r1 : ZC)) (fu := 4000) (orc := (Zh [(0, false), (1, false)] [] [(0, 1)] [] [])) (live := []) (u := Value.agg #[Value.string ⟨#[99, 111, 110, 115, 116]⟩, vi (1 : Int), vi (6 : Int), vq]) (bl := []) (ob := [(Nat.blt 1 21, true), (a0 == Int.ofNat 1, true), ((decide (a0 ≥ (21 : Int))), false), ((decide (a0 < (0 : Int))), false)]) (by kernel_rfl) (oB <| Za (beq_iff_eq.2 (show _ = ((1 : Nat) : Int) from by omega)) <| oN <| oN Zb) rfl (by decide) (by rfl) rr trivial
    ·
     refine Zl (fun g4 => ?_) (fun g4 => ?_)
     ·
      exact Zk (r := (.r2 : ZC)) (fu := 4000) (orc := (Zh [(0, false), (1, false)] [] [(0, 2)] [] [])) (live := []) (u := Value.agg #[Value.string ⟨#[110, 105, 108]⟩, vi (1 : Int), vq, vq]) (bl := []) (ob := [(Nat.blt 2 21, true), (a0 == Int.ofNat 2, true), ((decide (a0 ≥ (21 : Int))), false), ((decide (a0 < (0 : Int))), false)]) (by kernel_rfl) (oB <| Za (beq_iff_eq.2 (show _ = ((2 : Nat) : Int) from by omega)) <| oN <| oN Zb) rfl (by decide) (by rfl) rr trivial
     ·
      refine Zl (fun g5 => ?_) (fun g5 => ?_)
      ·
       exact Zk (r := (.r3 : ZC)) (fu := 4000) (orc := (Zh [(0, false), (1, false)] [] [(0, 3)] [] [])) (live := []) (u := Value.agg #[Value.string ⟨#[109, 111, 118, 101]⟩, vi (1 : Int), vi (1 : Int), vq]) (bl := []) (ob := [(Nat.blt 3 21, true), (a0 == Int.ofNat 3, true), ((decide (a0 ≥ (21 : Int))), false), ((decide (a0 < (0 : Int))), false)]) (by kernel_rfl) (oB <| Za (beq_iff_eq.2 (show _ = ((3 : Nat) : Int) from by omega)) <| oN <| oN Zb) rfl (by decide) (by rfl) rr trivial
      ·
       refine Zl (fun g6 => ?_) (fun g6 => ?_)
       ·
        exact Zk (r := (.r4 : ZC)) (fu := 4000) (orc := (Zh [(0, false), (1, false)] [] [(0, 4)] [] [])) (live := []) (u := Value.agg #[Value.string ⟨#[97, 100, 100]⟩, vi (1 : Int), vi (1 : Int), vi (1 : Int)]) (bl := []) (ob := [(Nat.blt 4 21, true), (a0 == Int.ofNat 4, true), ((decide (a0 ≥ (21 : Int))), false), ((decide (a0 < (0 : Int))), false)]) (by kernel_rfl) (oB <| Za (beq_iff_eq.2 (show _ = ((4 : Nat) : Int) from by omega)) <| oN <| oN Zb) rfl (by decide) (by rfl) rr trivial
       ·
        refine Zl (fun g7 => ?_) (fun g7 => ?_)
        ·
         exact Zk (r := (.r5 : ZC)) (fu := 4000) (orc := (Zh [(0, false), (1, false)] [] [(0, 5)] [] [])) (live := []) (u := Value.agg #[Value.string ⟨#[115, 117, 98]⟩, vi (1 : Int), vi (1 : Int), vi (1 : Int)]) (bl := []) (ob := [(Nat.blt 5 21, true), (a0 == Int.ofNat 5, true), ((decide (a0 ≥ (21 : Int))), false), ((decide (a0 < (0 : Int))), false)]) (by kernel_rfl) (oB <| Za (beq_iff_eq.2 (show _ = ((5 : Nat) : Int) from by omega)) <| oN <| oN Zb) rfl (by decide) (by rfl) rr trivial
        ·
         refine Zl (fun g8 => ?_) (fun g8 => ?_)
         ·
          exact Zk (r := (.r6 : ZC)) (fu := 4000) (orc := (Zh [(0, false), (1, false)] [] [(0, 6)] [] [])) (live := []) (u := Value.agg #[Value.string ⟨#[108, 101, 115, 115]⟩, vi (1 : Int), vi (1 : Int), vi (1 : Int)]) (bl := []) (ob := [(Nat.blt 6 21, true), (a0 == Int.ofNat 6, true), ((decide (a0 ≥ (21 : Int))), false), ((decide (a0 < (0 : Int))), false)]) (by kernel_rfl) (oB <| Za (beq_iff_eq.2 (show _ = ((6 : Nat) : Int) from by omega)) <| oN <| oN Zb) rfl (by decide) (by rfl) rr trivial
         ·
          refine Zl (fun g9 => ?_) (fun g9 => ?_)
          ·
           exact Zk (r := (.r7 : ZC)) (fu := 4000) (orc := (Zh [(0, false), (1, false)] [] [(0, 7)] [] [])) (live := []) (u := Value.agg #[Value.string ⟨#[101, 113]⟩, vi (1 : Int), vi (1 : Int), vi (1 : Int)]) (bl := []) (ob := [(Nat.blt 7 21, true), (a0 == Int.ofNat 7, true), ((decide (a0 ≥ (21 : Int))), false), ((decide (a0 < (0 : Int))), false)]) (by kernel_rfl) (oB <| Za (beq_iff_eq.2 (show _ = ((7 : Nat) : Int) from by omega)) <| oN <| oN Zb) rfl (by decide) (by rfl) rr trivial
          ·
           refine Zl (fun g10 => ?_) (fun g10 => ?_)
           ·
            exact Zk (r := (.r8 : ZC)) (fu := 4000) (orc := (Zh [(0, false), (1, false)] [] [(0, 8)] [] [])) (live := []) (u := Value.agg #[Value.string ⟨#[106, 117, 109, 112]⟩, vi (4 : Int), vq, vq]) (bl := []) (ob := [(Nat.blt 8 21, true), (a0 == Int.ofNat 8, true), ((decide (a0 ≥ (21 : Int))), false), ((decide (a0 < (0 : Int))), false)]) (by kernel_rfl) (oB <| Za (beq_iff_eq.2 (show _ = ((8 : Nat) : Int) from by omega)) <| oN <| oN Zb) rfl (by decide) (by rfl) rr trivial
           ·
            refine Zl (fun g11 => ?_) (fun g11 => ?_)
            ·
             exact Zk (r := (.r9 : ZC)) (fu := 4000) (orc := (Zh [(0, false), (1, false)] [] [(0, 9)] [] [])) (live := []) (u := Value.agg #[Value.string ⟨#[106, 117, 109, 112, 122]⟩, vi (1 : Int), vi (4 : Int), vq]) (bl := []) (ob := [(Nat.blt 9 21, true), (a0 == Int.ofNat 9, true), ((decide (a0 ≥ (21 : Int))), false), ((decide (a0 < (0 : Int))), false)]) (by kernel_rfl) (oB <| Za (beq_iff_eq.2 (show _ = ((9 : Nat) : Int) from by omega)) <| oN <| oN Zb) rfl (by decide) (by rfl) rr trivial
            ·
             refine Zl (fun g12 => ?_) (fun g12 => ?_)
             ·
              exact Zk (r := (.r10 : ZC)) (fu := 4000) (orc := (Zh [(0, false), (1, false)] [] [(0, 10)] [] [])) (live := []) (u := Value.agg #[Value.string ⟨#[114, 111, 111, 116]⟩, vi (1 : Int), vq, vq]) (bl := []) (ob := [(Nat.blt 10 21, true), (a0 == Int.ofNat 10, true), ((decide (a0 ≥ (21 : Int))), false), ((decide (a0 < (0 : Int))), false)]) (by kernel_rfl) (oB <| Za (beq_iff_eq.2 (show _ = ((10 : Nat) : Int) from by omega)) <| oN <| oN Zb) rfl (by decide) (by rfl) rr trivial
             ·
              refine Zl (fun g13 => ?_) (fun g13 => ?_)
              ·
               exact Zk (r := (.r11 : ZC)) (fu := 4000) (orc := (Zh [(0, false), (1, false)] [] [(0, 11)] [] [])) (live := []) (u := Value.agg #[Value.string ⟨#[110, 101, 119]⟩, vi (1 : Int), vi (3 : Int), vi (5 : Int)]) (bl := []) (ob := [(Nat.blt 11 21, true), (a0 == Int.ofNat 11, true), ((decide (a0 ≥ (21 : Int))), false), ((decide (a0 < (0 : Int))), false)]) (by kernel_rfl) (oB <| Za (beq_iff_eq.2 (show _ = ((11 : Nat) : Int) from by omega)) <| oN <| oN Zb) rfl (by decide) (by rfl) rr trivial
              ·
               refine Zl (fun g14 => ?_) (fun g14 => ?_)
               ·
                exact Zk (r := (.r12 : ZC)) (fu := 4000) (orc := (Zh [(0, false), (1, false)] [] [(0, 12)] [] [])) (live := []) (u := Value.agg #[Value.string ⟨#[102, 114, 101, 101]⟩, vi (1 : Int), vq, vq]) (bl := []) (ob := [(Nat.blt 12 21, true), (a0 == Int.ofNat 12, true), ((decide (a0 ≥ (21 : Int))), false), ((decide (a0 < (0 : Int))), false)]) (by kernel_rfl) (oB <| Za (beq_iff_eq.2 (show _ = ((12 : Nat) : Int) from by omega)) <| oN <| oN Zb) rfl (by decide) (by rfl) rr trivial
               ·
                refine Zl (fun g15 => ?_) (fun g15 => ?_)
                ·
                 exact Zk (r := (.r13 : ZC)) (fu := 4000) (orc := (Zh [(0, false), (1, false)] [] [(0, 13)] [] [])) (live := []) (u := Value.agg #[Value.string ⟨#[103, 101, 116]⟩, vi (1 : Int), vi (1 : Int), vi (2 : Int)]) (bl := []) (ob := [(Nat.blt 13 21, true), (a0 == Int.ofNat 13, true), ((decide (a0 ≥ (21 : Int))), false), ((decide (a0 < (0 : Int))), false)]) (by kernel_rfl) (oB <| Za (beq_iff_eq.2 (show _ = ((13 : Nat) : Int) from by omega)) <| oN <| oN Zb) rfl (by decide) (by rfl) rr trivial
                ·
                 refine Zl (fun g16 => ?_) (fun g16 => ?_)
                 ·
                  exact Zk (r := (.r14 : ZC)) (fu := 4000) (orc := (Zh [(0, false), (1, false)] [] [(0, 14)] [] [])) (live := []) (u := Value.agg #[Value.string ⟨#[115, 101, 116]⟩, vi (1 : Int), vi (2 : Int), vi (1 : Int)]) (bl := []) (ob := [(Nat.blt 14 21, true), (a0 == Int.ofNat 14, true), ((decide (a0 ≥ (21 : Int))), false), ((decide (a0 < (0 : Int))), false)]) (by kernel_rfl) (oB <| Za (beq_iff_eq.2 (show _ = ((14 : Nat) : Int) from by omega)) <| oN <| oN Zb) rfl (by decide) (by rfl) rr trivial
                 ·
                  refine Zl (fun g17 => ?_) (fun g17 => ?_)
                  ·
                   exact Zk (r := (.r15 : ZC)) (fu := 4000) (orc := (Zh [(0, false), (1, false)] [] [(0, 15)] [] [])) (live := []) (u := Value.agg #[Value.string ⟨#[98, 101, 103, 105, 110]⟩, vq, vq, vq]) (bl := []) (ob := [(Nat.blt 15 21, true), (a0 == Int.ofNat 15, true), ((decide (a0 ≥ (21 : Int))), false), ((decide (a0 < (0 : Int))), false)]) (by kernel_rfl) (oB <| Za (beq_iff_eq.2 (show _ = ((15 : Nat) : Int) from by omega)) <| oN <| oN Zb) rfl (by decide) (by rfl) rr trivial
                  ·
                   refine Zl (fun g18 => ?_) (fun g18 => ?_)
                   ·
                    exact Zk (r := (.r16 : ZC)) (fu := 4000) (orc := (Zh [(0, false), (1, false)] [] [(0, 16)] [] [])) (live := []) (u := Value.agg #[Value.string ⟨#[101, 108, 115, 101]⟩, vq, vq, vq]) (bl := []) (ob := [(Nat.blt 16 21, true), (a0 == Int.ofNat 16, true), ((decide (a0 ≥ (21 : Int))), false), ((decide (a0 < (0 : Int))), false)]) (by kernel_rfl) (oB <| Za (beq_iff_eq.2 (show _ = ((16 : Nat) : Int) from by omega)) <| oN <| oN Zb) rfl (by decide) (by rfl) rr trivial
                   ·
                    refine Zl (fun g19 => ?_) (fun g19 => ?_)
                    ·
                     exact Zk (r := (.r17 : ZC)) (fu := 4000) (orc := (Zh [(0, false), (1, false)] [] [(0, 17)] [] [])) (live := []) (u := Value.agg #[Value.string ⟨#[101, 110, 100]⟩, vq, vq, vq]) (bl := []) (ob := [(Nat.blt 17 21, true), (a0 == Int.ofNat 17, true), ((decide (a0 ≥ (21 : Int))), false), ((decide (a0 < (0 : Int))), false)]) (by kernel_rfl) (oB <| Za (beq_iff_eq.2 (show _ = ((17 : Nat) : Int) from by omega)) <| oN <| oN Zb) rfl (by decide) (by rfl) rr trivial
                    ·
                     refine Zl (fun g20 => ?_) (fun g20 => ?_)
                     ·
                      exact Zk (r := (.r18 : ZC)) (fu := 4000) (orc := (Zh [(0, false), (1, false)] [] [(0, 18)] [] [])) (live := []) (u := Value.agg #[Value.string ⟨#[114, 101, 116, 114, 121]⟩, vq, vq, vq]) (bl := []) (ob := [(Nat.blt 18 21, true), (a0 == Int.ofNat 18, true), ((decide (a0 ≥ (21 : Int))), false), ((decide (a0 < (0 : Int))), false)]) (by kernel_rfl) (oB <| Za (beq_iff_eq.2 (show _ = ((18 : Nat) : Int) from by omega)) <| oN <| oN Zb) rfl (by decide) (by rfl) rr trivial
                     ·
                      refine Zl (fun g21 => ?_) (fun g21 => ?_)
                      ·
                       exact Zk (r := (.r19 : ZC)) (fu := 4000) (orc := (Zh [(0, false), (1, false)] [] [(0, 19)] [] [])) (live := []) (u := Value.agg #[Value.string ⟨#[101, 109, 105, 116]⟩, vi (1 : Int), vq, vq]) (bl := []) (ob := [(Nat.blt 19 21, true), (a0 == Int.ofNat 19, true), ((decide (a0 ≥ (21 : Int))), false), ((decide (a0 < (0 : Int))), false)]) (by kernel_rfl) (oB <| Za (beq_iff_eq.2 (show _ = ((19 : Nat) : Int) from by omega)) <| oN <| oN Zb) rfl (by decide) (by rfl) rr trivial
                      ·
                       exact Zk (r := (.r20 : ZC)) (fu := 4000) (orc := (Zh [(0, false), (1, false)] [] [(0, 20)] [] [])) (live := []) (u := Value.agg #[Value.string ⟨#[104, 97, 108, 116]⟩, vq, vq, vq]) (bl := []) (ob := [(Nat.blt 20 21, true), (a0 == Int.ofNat 20, true), ((decide (a0 ≥ (21 : Int))), false), ((decide (a0 < (0 : Int))), false)]) (by kernel_rfl) (oB <| Za (beq_iff_eq.2 (show _ = ((20 : Nat) : Int) from by omega)) <| oN <| oN Zb) rfl (by decide) (by rfl) rr trivial

theorem Zav (a0 : Int) (N : Nat) (r : ZC) (h : Zay a0 N = some r) : LSpec Try.prog 22 #[vi a0] [] (Zoq a0 r) (ZmC a0 r) :=
 ZdD ZaR Try.func22 (by kernel_rfl) (by kernel_rfl) (fun r => by cases r <;> exact Zal _ rfl) (ZqR a0 N) h

noncomputable def Zsw (a0 : Int) (n : Nat) : Za4 := .call [] (Value.agg #[Value.string ⟨#[]⟩, vq, vq, vq]) [] 0
def ZmD (A : Array Value) (a0 : Int) (n : Nat) : Prop := ZB Try.prog 22 A [] (Value.agg #[Value.string ⟨#[]⟩, vq, vq, vq]) [] n 0

theorem Zsx (A : Array Value) (a0 : Int) (N : Nat) (h : Zay a0 N = some (.r0)) (n : Nat) (hA : A = #[vi a0]) (hnd : ([] : List Nat).Nodup) (hlt : ∀ k ∈ ([] : List Nat), k < n) : ZmD A a0  n :=
 ZQ hA (LSpec.callL (show LSpec Try.prog 22 #[vi a0] [] (Value.agg #[Value.string ⟨#[]⟩, vq, vq, vq]) [] from Zav a0 N _ h) [] n [] rfl hnd hlt (show 0 ≤ 0 from by decide) (show ∀ j ∈ ([] : List Nat), j < 0 from by decide) (by rfl) trivial (by rfl) trivial trivial rfl rfl rfl rfl rfl)

noncomputable def Zsy (a0 : Int) (n : Nat) : Za4 := .call [] (Value.agg #[Value.string ⟨#[99, 111, 110, 115, 116]⟩, vi (1 : Int), vi (6 : Int), vq]) [] 0
def ZmE (A : Array Value) (a0 : Int) (n : Nat) : Prop := ZB Try.prog 22 A [] (Value.agg #[Value.string ⟨#[99, 111, 110, 115, 116]⟩, vi (1 : Int), vi (6 : Int), vq]) [] n 0

theorem Zsz (A : Array Value) (a0 : Int) (N : Nat) (h : Zay a0 N = some (.r1)) (n : Nat) (hA : A = #[vi a0]) (hnd : ([] : List Nat).Nodup) (hlt : ∀ k ∈ ([] : List Nat), k < n) : ZmE A a0  n :=
 ZQ hA (LSpec.callL (show LSpec Try.prog 22 #[vi a0] [] (Value.agg #[Value.string ⟨#[99, 111, 110, 115, 116]⟩, vi (1 : Int), vi (6 : Int), vq]) [] from Zav a0 N _ h) [] n [] rfl hnd hlt (show 0 ≤ 0 from by decide) (show ∀ j ∈ ([] : List Nat), j < 0 from by decide) (by rfl) trivial (by rfl) trivial trivial rfl rfl rfl rfl rfl)

noncomputable def Zs0 (a0 : Int) (n : Nat) : Za4 := .call [] (Value.agg #[Value.string ⟨#[110, 105, 108]⟩, vi (1 : Int), vq, vq]) [] 0
def ZmF (A : Array Value) (a0 : Int) (n : Nat) : Prop := ZB Try.prog 22 A [] (Value.agg #[Value.string ⟨#[110, 105, 108]⟩, vi (1 : Int), vq, vq]) [] n 0

theorem Zs1 (A : Array Value) (a0 : Int) (N : Nat) (h : Zay a0 N = some (.r2)) (n : Nat) (hA : A = #[vi a0]) (hnd : ([] : List Nat).Nodup) (hlt : ∀ k ∈ ([] : List Nat), k < n) : ZmF A a0  n :=
 ZQ hA (LSpec.callL (show LSpec Try.prog 22 #[vi a0] [] (Value.agg #[Value.string ⟨#[110, 105, 108]⟩, vi (1 : Int), vq, vq]) [] from Zav a0 N _ h) [] n [] rfl hnd hlt (show 0 ≤ 0 from by decide) (show ∀ j ∈ ([] : List Nat), j < 0 from by decide) (by rfl) trivial (by rfl) trivial trivial rfl rfl rfl rfl rfl)

noncomputable def Zs2 (a0 : Int) (n : Nat) : Za4 := .call [] (Value.agg #[Value.string ⟨#[109, 111, 118, 101]⟩, vi (1 : Int), vi (1 : Int), vq]) [] 0
def ZmG (A : Array Value) (a0 : Int) (n : Nat) : Prop := ZB Try.prog 22 A [] (Value.agg #[Value.string ⟨#[109, 111, 118, 101]⟩, vi (1 : Int), vi (1 : Int), vq]) [] n 0

theorem Zs3 (A : Array Value) (a0 : Int) (N : Nat) (h : Zay a0 N = some (.r3)) (n : Nat) (hA : A = #[vi a0]) (hnd : ([] : List Nat).Nodup) (hlt : ∀ k ∈ ([] : List Nat), k < n) : ZmG A a0  n :=
 ZQ hA (LSpec.callL (show LSpec Try.prog 22 #[vi a0] [] (Value.agg #[Value.string ⟨#[109, 111, 118, 101]⟩, vi (1 : Int), vi (1 : Int), vq]) [] from Zav a0 N _ h) [] n [] rfl hnd hlt (show 0 ≤ 0 from by decide) (show ∀ j ∈ ([] : List Nat), j < 0 from by decide) (by rfl) trivial (by rfl) trivial trivial rfl rfl rfl rfl rfl)

noncomputable def Zs4 (a0 : Int) (n : Nat) : Za4 := .call [] (Value.agg #[Value.string ⟨#[97, 100, 100]⟩, vi (1 : Int), vi (1 : Int), vi (1 : Int)]) [] 0
def ZmH (A : Array Value) (a0 : Int) (n : Nat) : Prop := ZB Try.prog 22 A [] (Value.agg #[Value.string ⟨#[97, 100, 100]⟩, vi (1 : Int), vi (1 : Int), vi (1 : Int)]) [] n 0

theorem Zs5 (A : Array Value) (a0 : Int) (N : Nat) (h : Zay a0 N = some (.r4)) (n : Nat) (hA : A = #[vi a0]) (hnd : ([] : List Nat).Nodup) (hlt : ∀ k ∈ ([] : List Nat), k < n) : ZmH A a0  n :=
 ZQ hA (LSpec.callL (show LSpec Try.prog 22 #[vi a0] [] (Value.agg #[Value.string ⟨#[97, 100, 100]⟩, vi (1 : Int), vi (1 : Int), vi (1 : Int)]) [] from Zav a0 N _ h) [] n [] rfl hnd hlt (show 0 ≤ 0 from by decide) (show ∀ j ∈ ([] : List Nat), j < 0 from by decide) (by rfl) trivial (by rfl) trivial trivial rfl rfl rfl rfl rfl)

noncomputable def Zs6 (a0 : Int) (n : Nat) : Za4 := .call [] (Value.agg #[Value.string ⟨#[115, 117, 98]⟩, vi (1 : Int), vi (1 : Int), vi (1 : Int)]) [] 0
def ZmI (A : Array Value) (a0 : Int) (n : Nat) : Prop := ZB Try.prog 22 A [] (Value.agg #[Value.string ⟨#[115, 117, 98]⟩, vi (1 : Int), vi (1 : Int), vi (1 : Int)]) [] n 0

theorem Zs7 (A : Array Value) (a0 : Int) (N : Nat) (h : Zay a0 N = some (.r5)) (n : Nat) (hA : A = #[vi a0]) (hnd : ([] : List Nat).Nodup) (hlt : ∀ k ∈ ([] : List Nat), k < n) : ZmI A a0  n :=
 ZQ hA (LSpec.callL (show LSpec Try.prog 22 #[vi a0] [] (Value.agg #[Value.string ⟨#[115, 117, 98]⟩, vi (1 : Int), vi (1 : Int), vi (1 : Int)]) [] from Zav a0 N _ h) [] n [] rfl hnd hlt (show 0 ≤ 0 from by decide) (show ∀ j ∈ ([] : List Nat), j < 0 from by decide) (by rfl) trivial (by rfl) trivial trivial rfl rfl rfl rfl rfl)

noncomputable def Zs8 (a0 : Int) (n : Nat) : Za4 := .call [] (Value.agg #[Value.string ⟨#[108, 101, 115, 115]⟩, vi (1 : Int), vi (1 : Int), vi (1 : Int)]) [] 0
def ZmJ (A : Array Value) (a0 : Int) (n : Nat) : Prop := ZB Try.prog 22 A [] (Value.agg #[Value.string ⟨#[108, 101, 115, 115]⟩, vi (1 : Int), vi (1 : Int), vi (1 : Int)]) [] n 0

theorem Zs9 (A : Array Value) (a0 : Int) (N : Nat) (h : Zay a0 N = some (.r6)) (n : Nat) (hA : A = #[vi a0]) (hnd : ([] : List Nat).Nodup) (hlt : ∀ k ∈ ([] : List Nat), k < n) : ZmJ A a0  n :=
 ZQ hA (LSpec.callL (show LSpec Try.prog 22 #[vi a0] [] (Value.agg #[Value.string ⟨#[108, 101, 115, 115]⟩, vi (1 : Int), vi (1 : Int), vi (1 : Int)]) [] from Zav a0 N _ h) [] n [] rfl hnd hlt (show 0 ≤ 0 from by decide) (show ∀ j ∈ ([] : List Nat), j < 0 from by decide) (by rfl) trivial (by rfl) trivial trivial rfl rfl rfl rfl rfl)

noncomputable def ZsA (a0 : Int) (n : Nat) : Za4 := .call [] (Value.agg #[Value.string ⟨#[101, 113]⟩, vi (1 : Int), vi (1 : Int), vi (1 : Int)]) [] 0
def ZmK (A : Array Value) (a0 : Int) (n : Nat) : Prop := ZB Try.prog 22 A [] (Value.agg #[Value.string ⟨#[101, 113]⟩, vi (1 : Int), vi (1 : Int), vi (1 : Int)]) [] n 0

theorem ZsB (A : Array Value) (a0 : Int) (N : Nat) (h : Zay a0 N = some (.r7)) (n : Nat) (hA : A = #[vi a0]) (hnd : ([] : List Nat).Nodup) (hlt : ∀ k ∈ ([] : List Nat), k < n) : ZmK A a0  n :=
 ZQ hA (LSpec.callL (show LSpec Try.prog 22 #[vi a0] [] (Value.agg #[Value.string ⟨#[101, 113]⟩, vi (1 : Int), vi (1 : Int), vi (1 : Int)]) [] from Zav a0 N _ h) [] n [] rfl hnd hlt (show 0 ≤ 0 from by decide) (show ∀ j ∈ ([] : List Nat), j < 0 from by decide) (by rfl) trivial (by rfl) trivial trivial rfl rfl rfl rfl rfl)

noncomputable def ZsC (a0 : Int) (n : Nat) : Za4 := .call [] (Value.agg #[Value.string ⟨#[106, 117, 109, 112]⟩, vi (4 : Int), vq, vq]) [] 0
def ZmL (A : Array Value) (a0 : Int) (n : Nat) : Prop := ZB Try.prog 22 A [] (Value.agg #[Value.string ⟨#[106, 117, 109, 112]⟩, vi (4 : Int), vq, vq]) [] n 0

theorem ZsD (A : Array Value) (a0 : Int) (N : Nat) (h : Zay a0 N = some (.r8)) (n : Nat) (hA : A = #[vi a0]) (hnd : ([] : List Nat).Nodup) (hlt : ∀ k ∈ ([] : List Nat), k < n) : ZmL A a0  n :=
 ZQ hA (LSpec.callL (show LSpec Try.prog 22 #[vi a0] [] (Value.agg #[Value.string ⟨#[106, 117, 109, 112]⟩, vi (4 : Int), vq, vq]) [] from Zav a0 N _ h) [] n [] rfl hnd hlt (show 0 ≤ 0 from by decide) (show ∀ j ∈ ([] : List Nat), j < 0 from by decide) (by rfl) trivial (by rfl) trivial trivial rfl rfl rfl rfl rfl)

noncomputable def ZsE (a0 : Int) (n : Nat) : Za4 := .call [] (Value.agg #[Value.string ⟨#[106, 117, 109, 112, 122]⟩, vi (1 : Int), vi (4 : Int), vq]) [] 0
def ZmM (A : Array Value) (a0 : Int) (n : Nat) : Prop := ZB Try.prog 22 A [] (Value.agg #[Value.string ⟨#[106, 117, 109, 112, 122]⟩, vi (1 : Int), vi (4 : Int), vq]) [] n 0

theorem ZsF (A : Array Value) (a0 : Int) (N : Nat) (h : Zay a0 N = some (.r9)) (n : Nat) (hA : A = #[vi a0]) (hnd : ([] : List Nat).Nodup) (hlt : ∀ k ∈ ([] : List Nat), k < n) : ZmM A a0  n :=
 ZQ hA (LSpec.callL (show LSpec Try.prog 22 #[vi a0] [] (Value.agg #[Value.string ⟨#[106, 117, 109, 112, 122]⟩, vi (1 : Int), vi (4 : Int), vq]) [] from Zav a0 N _ h) [] n [] rfl hnd hlt (show 0 ≤ 0 from by decide) (show ∀ j ∈ ([] : List Nat), j < 0 from by decide) (by rfl) trivial (by rfl) trivial trivial rfl rfl rfl rfl rfl)

noncomputable def ZqS (a0 : Int) (n : Nat) : Za4 := .call [] (Value.agg #[Value.string ⟨#[114, 111, 111, 116]⟩, vi (1 : Int), vq, vq]) [] 0
def Zl4 (A : Array Value) (a0 : Int) (n : Nat) : Prop := ZB Try.prog 22 A [] (Value.agg #[Value.string ⟨#[114, 111, 111, 116]⟩, vi (1 : Int), vq, vq]) [] n 0

theorem ZqT (A : Array Value) (a0 : Int) (N : Nat) (h : Zay a0 N = some (.r10)) (n : Nat) (hA : A = #[vi a0]) (hnd : ([] : List Nat).Nodup) (hlt : ∀ k ∈ ([] : List Nat), k < n) : Zl4 A a0  n :=
 ZQ hA (LSpec.callL (show LSpec Try.prog 22 #[vi a0] [] (Value.agg #[Value.string ⟨#[114, 111, 111, 116]⟩, vi (1 : Int), vq, vq]) [] from Zav a0 N _ h) [] n [] rfl hnd hlt (show 0 ≤ 0 from by decide) (show ∀ j ∈ ([] : List Nat), j < 0 from by decide) (by rfl) trivial (by rfl) trivial trivial rfl rfl rfl rfl rfl)

noncomputable def ZqU (a0 : Int) (n : Nat) : Za4 := .call [] (Value.agg #[Value.string ⟨#[110, 101, 119]⟩, vi (1 : Int), vi (3 : Int), vi (5 : Int)]) [] 0
def Zl5 (A : Array Value) (a0 : Int) (n : Nat) : Prop := ZB Try.prog 22 A [] (Value.agg #[Value.string ⟨#[110, 101, 119]⟩, vi (1 : Int), vi (3 : Int), vi (5 : Int)]) [] n 0

theorem ZqV (A : Array Value) (a0 : Int) (N : Nat) (h : Zay a0 N = some (.r11)) (n : Nat) (hA : A = #[vi a0]) (hnd : ([] : List Nat).Nodup) (hlt : ∀ k ∈ ([] : List Nat), k < n) : Zl5 A a0  n :=
 ZQ hA (LSpec.callL (show LSpec Try.prog 22 #[vi a0] [] (Value.agg #[Value.string ⟨#[110, 101, 119]⟩, vi (1 : Int), vi (3 : Int), vi (5 : Int)]) [] from Zav a0 N _ h) [] n [] rfl hnd hlt (show 0 ≤ 0 from by decide) (show ∀ j ∈ ([] : List Nat), j < 0 from by decide) (by rfl) trivial (by rfl) trivial trivial rfl rfl rfl rfl rfl)

noncomputable def ZqW (a0 : Int) (n : Nat) : Za4 := .call [] (Value.agg #[Value.string ⟨#[102, 114, 101, 101]⟩, vi (1 : Int), vq, vq]) [] 0
def Zl6 (A : Array Value) (a0 : Int) (n : Nat) : Prop := ZB Try.prog 22 A [] (Value.agg #[Value.string ⟨#[102, 114, 101, 101]⟩, vi (1 : Int), vq, vq]) [] n 0

theorem ZqX (A : Array Value) (a0 : Int) (N : Nat) (h : Zay a0 N = some (.r12)) (n : Nat) (hA : A = #[vi a0]) (hnd : ([] : List Nat).Nodup) (hlt : ∀ k ∈ ([] : List Nat), k < n) : Zl6 A a0  n :=
 ZQ hA (LSpec.callL (show LSpec Try.prog 22 #[vi a0] [] (Value.agg #[Value.string ⟨#[102, 114, 101, 101]⟩, vi (1 : Int), vq, vq]) [] from Zav a0 N _ h) [] n [] rfl hnd hlt (show 0 ≤ 0 from by decide) (show ∀ j ∈ ([] : List Nat), j < 0 from by decide) (by rfl) trivial (by rfl) trivial trivial rfl rfl rfl rfl rfl)

noncomputable def ZqY (a0 : Int) (n : Nat) : Za4 := .call [] (Value.agg #[Value.string ⟨#[103, 101, 116]⟩, vi (1 : Int), vi (1 : Int), vi (2 : Int)]) [] 0
def Zl7 (A : Array Value) (a0 : Int) (n : Nat) : Prop := ZB Try.prog 22 A [] (Value.agg #[Value.string ⟨#[103, 101, 116]⟩, vi (1 : Int), vi (1 : Int), vi (2 : Int)]) [] n 0

theorem ZqZ (A : Array Value) (a0 : Int) (N : Nat) (h : Zay a0 N = some (.r13)) (n : Nat) (hA : A = #[vi a0]) (hnd : ([] : List Nat).Nodup) (hlt : ∀ k ∈ ([] : List Nat), k < n) : Zl7 A a0  n :=
 ZQ hA (LSpec.callL (show LSpec Try.prog 22 #[vi a0] [] (Value.agg #[Value.string ⟨#[103, 101, 116]⟩, vi (1 : Int), vi (1 : Int), vi (2 : Int)]) [] from Zav a0 N _ h) [] n [] rfl hnd hlt (show 0 ≤ 0 from by decide) (show ∀ j ∈ ([] : List Nat), j < 0 from by decide) (by rfl) trivial (by rfl) trivial trivial rfl rfl rfl rfl rfl)

noncomputable def Zra (a0 : Int) (n : Nat) : Za4 := .call [] (Value.agg #[Value.string ⟨#[115, 101, 116]⟩, vi (1 : Int), vi (2 : Int), vi (1 : Int)]) [] 0
def Zl8 (A : Array Value) (a0 : Int) (n : Nat) : Prop := ZB Try.prog 22 A [] (Value.agg #[Value.string ⟨#[115, 101, 116]⟩, vi (1 : Int), vi (2 : Int), vi (1 : Int)]) [] n 0

theorem Zrb (A : Array Value) (a0 : Int) (N : Nat) (h : Zay a0 N = some (.r14)) (n : Nat) (hA : A = #[vi a0]) (hnd : ([] : List Nat).Nodup) (hlt : ∀ k ∈ ([] : List Nat), k < n) : Zl8 A a0  n :=
 ZQ hA (LSpec.callL (show LSpec Try.prog 22 #[vi a0] [] (Value.agg #[Value.string ⟨#[115, 101, 116]⟩, vi (1 : Int), vi (2 : Int), vi (1 : Int)]) [] from Zav a0 N _ h) [] n [] rfl hnd hlt (show 0 ≤ 0 from by decide) (show ∀ j ∈ ([] : List Nat), j < 0 from by decide) (by rfl) trivial (by rfl) trivial trivial rfl rfl rfl rfl rfl)

noncomputable def Zrc (a0 : Int) (n : Nat) : Za4 := .call [] (Value.agg #[Value.string ⟨#[98, 101, 103, 105, 110]⟩, vq, vq, vq]) [] 0
def Zl9 (A : Array Value) (a0 : Int) (n : Nat) : Prop := ZB Try.prog 22 A [] (Value.agg #[Value.string ⟨#[98, 101, 103, 105, 110]⟩, vq, vq, vq]) [] n 0

theorem Zrd (A : Array Value) (a0 : Int) (N : Nat) (h : Zay a0 N = some (.r15)) (n : Nat) (hA : A = #[vi a0]) (hnd : ([] : List Nat).Nodup) (hlt : ∀ k ∈ ([] : List Nat), k < n) : Zl9 A a0  n :=
 ZQ hA (LSpec.callL (show LSpec Try.prog 22 #[vi a0] [] (Value.agg #[Value.string ⟨#[98, 101, 103, 105, 110]⟩, vq, vq, vq]) [] from Zav a0 N _ h) [] n [] rfl hnd hlt (show 0 ≤ 0 from by decide) (show ∀ j ∈ ([] : List Nat), j < 0 from by decide) (by rfl) trivial (by rfl) trivial trivial rfl rfl rfl rfl rfl)

noncomputable def Zre (a0 : Int) (n : Nat) : Za4 := .call [] (Value.agg #[Value.string ⟨#[101, 108, 115, 101]⟩, vq, vq, vq]) [] 0
def ZlA (A : Array Value) (a0 : Int) (n : Nat) : Prop := ZB Try.prog 22 A [] (Value.agg #[Value.string ⟨#[101, 108, 115, 101]⟩, vq, vq, vq]) [] n 0

theorem Zrf (A : Array Value) (a0 : Int) (N : Nat) (h : Zay a0 N = some (.r16)) (n : Nat) (hA : A = #[vi a0]) (hnd : ([] : List Nat).Nodup) (hlt : ∀ k ∈ ([] : List Nat), k < n) : ZlA A a0  n :=
 ZQ hA (LSpec.callL (show LSpec Try.prog 22 #[vi a0] [] (Value.agg #[Value.string ⟨#[101, 108, 115, 101]⟩, vq, vq, vq]) [] from Zav a0 N _ h) [] n [] rfl hnd hlt (show 0 ≤ 0 from by decide) (show ∀ j ∈ ([] : List Nat), j < 0 from by decide) (by rfl) trivial (by rfl) trivial trivial rfl rfl rfl rfl rfl)

noncomputable def Zrg (a0 : Int) (n : Nat) : Za4 := .call [] (Value.agg #[Value.string ⟨#[101, 110, 100]⟩, vq, vq, vq]) [] 0
def ZlB (A : Array Value) (a0 : Int) (n : Nat) : Prop := ZB Try.prog 22 A [] (Value.agg #[Value.string ⟨#[101, 110, 100]⟩, vq, vq, vq]) [] n 0

theorem Zrh (A : Array Value) (a0 : Int) (N : Nat) (h : Zay a0 N = some (.r17)) (n : Nat) (hA : A = #[vi a0]) (hnd : ([] : List Nat).Nodup) (hlt : ∀ k ∈ ([] : List Nat), k < n) : ZlB A a0  n :=
 ZQ hA (LSpec.callL (show LSpec Try.prog 22 #[vi a0] [] (Value.agg #[Value.string ⟨#[101, 110, 100]⟩, vq, vq, vq]) [] from Zav a0 N _ h) [] n [] rfl hnd hlt (show 0 ≤ 0 from by decide) (show ∀ j ∈ ([] : List Nat), j < 0 from by decide) (by rfl) trivial (by rfl) trivial trivial rfl rfl rfl rfl rfl)

noncomputable def Zri (a0 : Int) (n : Nat) : Za4 := .call [] (Value.agg #[Value.string ⟨#[114, 101, 116, 114, 121]⟩, vq, vq, vq]) [] 0
def ZlC (A : Array Value) (a0 : Int) (n : Nat) : Prop := ZB Try.prog 22 A [] (Value.agg #[Value.string ⟨#[114, 101, 116, 114, 121]⟩, vq, vq, vq]) [] n 0

theorem Zrj (A : Array Value) (a0 : Int) (N : Nat) (h : Zay a0 N = some (.r18)) (n : Nat) (hA : A = #[vi a0]) (hnd : ([] : List Nat).Nodup) (hlt : ∀ k ∈ ([] : List Nat), k < n) : ZlC A a0  n :=
 ZQ hA (LSpec.callL (show LSpec Try.prog 22 #[vi a0] [] (Value.agg #[Value.string ⟨#[114, 101, 116, 114, 121]⟩, vq, vq, vq]) [] from Zav a0 N _ h) [] n [] rfl hnd hlt (show 0 ≤ 0 from by decide) (show ∀ j ∈ ([] : List Nat), j < 0 from by decide) (by rfl) trivial (by rfl) trivial trivial rfl rfl rfl rfl rfl)

noncomputable def Zrk (a0 : Int) (n : Nat) : Za4 := .call [] (Value.agg #[Value.string ⟨#[101, 109, 105, 116]⟩, vi (1 : Int), vq, vq]) [] 0
def ZlD (A : Array Value) (a0 : Int) (n : Nat) : Prop := ZB Try.prog 22 A [] (Value.agg #[Value.string ⟨#[101, 109, 105, 116]⟩, vi (1 : Int), vq, vq]) [] n 0

theorem Zrl (A : Array Value) (a0 : Int) (N : Nat) (h : Zay a0 N = some (.r19)) (n : Nat) (hA : A = #[vi a0]) (hnd : ([] : List Nat).Nodup) (hlt : ∀ k ∈ ([] : List Nat), k < n) : ZlD A a0  n :=
 ZQ hA (LSpec.callL (show LSpec Try.prog 22 #[vi a0] [] (Value.agg #[Value.string ⟨#[101, 109, 105, 116]⟩, vi (1 : Int), vq, vq]) [] from Zav a0 N _ h) [] n [] rfl hnd hlt (show 0 ≤ 0 from by decide) (show ∀ j ∈ ([] : List Nat), j < 0 from by decide) (by rfl) trivial (by rfl) trivial trivial rfl rfl rfl rfl rfl)

noncomputable def Zrm (a0 : Int) (n : Nat) : Za4 := .call [] (Value.agg #[Value.string ⟨#[104, 97, 108, 116]⟩, vq, vq, vq]) [] 0
def ZlE (A : Array Value) (a0 : Int) (n : Nat) : Prop := ZB Try.prog 22 A [] (Value.agg #[Value.string ⟨#[104, 97, 108, 116]⟩, vq, vq, vq]) [] n 0

theorem Zrn (A : Array Value) (a0 : Int) (N : Nat) (h : Zay a0 N = some (.r20)) (n : Nat) (hA : A = #[vi a0]) (hnd : ([] : List Nat).Nodup) (hlt : ∀ k ∈ ([] : List Nat), k < n) : ZlE A a0  n :=
 ZQ hA (LSpec.callL (show LSpec Try.prog 22 #[vi a0] [] (Value.agg #[Value.string ⟨#[104, 97, 108, 116]⟩, vq, vq, vq]) [] from Zav a0 N _ h) [] n [] rfl hnd hlt (show 0 ≤ 0 from by decide) (show ∀ j ∈ ([] : List Nat), j < 0 from by decide) (by rfl) trivial (by rfl) trivial trivial rfl rfl rfl rfl rfl)

noncomputable def Zib (a0 a1 a2 : Int) : Zt → Value
 | .r0 w0 => Value.bool w0
noncomputable def ZhG (a0 a1 a2 : Int) : Zt → List (Option AObj)
 | .r0 w0 => []

theorem ZlZ (a0 a1 a2 : Int) (N : Nat) : Fx Try.prog Zj Try.f35 [] #[vi a0, vi a1, vi a2] (Zib a0 a1 a2) (ZhG a0 a1 a2) (Zz a0 a1 a2 N) := by
 unfold Zz
 refine Zl (fun g0 => ?_) (fun g0 => ?_)
 ·
  refine Zl (fun g1 => ?_) (fun g1 => ?_)
  ·
   refine Zl (fun g2 => ?_) (fun g2 => ?_)
   ·
    exact Zk (r := (.r0 (true) : Zt)) (fu := 4000) (orc := (Zh [(0, true), (1, true), (2, true)] [] [] [] [])) (live := []) (u := vT) (bl := []) (ob := [((decide (a1 ≤ (7 : Int))), true), ((decide ((0 : Int) ≤ a1)), true), ((a0 == (1 : Int)), true)]) (by kernel_rfl) (oY <| oY <| oT Zb) rfl (by decide) (by rfl) rr trivial
   ·
    exact Zk (r := (.r0 (false) : Zt)) (fu := 4000) (orc := (Zh [(0, true), (1, true), (2, false)] [] [] [] [])) (live := []) (u := vf) (bl := []) (ob := [((decide (a1 ≤ (7 : Int))), false), ((decide ((0 : Int) ≤ a1)), true), ((a0 == (1 : Int)), true)]) (by kernel_rfl) (oN <| oY <| oT Zb) rfl (by decide) (by rfl) rr trivial
  ·
   exact Zk (r := (.r0 (false) : Zt)) (fu := 4000) (orc := (Zh [(0, true), (1, false)] [] [] [] [])) (live := []) (u := vf) (bl := []) (ob := [((decide ((0 : Int) ≤ a1)), false), ((a0 == (1 : Int)), true)]) (by kernel_rfl) (oN <| oT Zb) rfl (by decide) (by rfl) rr trivial
 ·
  refine Zl (fun g1 => ?_) (fun g1 => ?_)
  ·
   refine Zl (fun g2 => ?_) (fun g2 => ?_)
   ·
    refine Zl (fun g3 => ?_) (fun g3 => ?_)
    ·
     exact Zk (r := (.r0 (true) : Zt)) (fu := 4000) (orc := (Zh [(0, false), (1, true), (2, true), (3, true)] [] [] [] [])) (live := []) (u := vT) (bl := []) (ob := [((decide (a1 ≤ (15 : Int))), true), ((decide ((0 : Int) ≤ a1)), true), ((a0 == (2 : Int)), true), ((a0 == (1 : Int)), false)]) (by kernel_rfl) (oY <| oY <| oT <| oF Zb) rfl (by decide) (by rfl) rr trivial
    ·
     exact Zk (r := (.r0 (false) : Zt)) (fu := 4000) (orc := (Zh [(0, false), (1, true), (2, true), (3, false)] [] [] [] [])) (live := []) (u := vf) (bl := []) (ob := [((decide (a1 ≤ (15 : Int))), false), ((decide ((0 : Int) ≤ a1)), true), ((a0 == (2 : Int)), true), ((a0 == (1 : Int)), false)]) (by kernel_rfl) (oN <| oY <| oT <| oF Zb) rfl (by decide) (by rfl) rr trivial
   ·
    exact Zk (r := (.r0 (false) : Zt)) (fu := 4000) (orc := (Zh [(0, false), (1, true), (2, false)] [] [] [] [])) (live := []) (u := vf) (bl := []) (ob := [((decide ((0 : Int) ≤ a1)), false), ((a0 == (2 : Int)), true), ((a0 == (1 : Int)), false)]) (by kernel_rfl) (oN <| oT <| oF Zb) rfl (by decide) (by rfl) rr trivial
  ·
   refine Zl (fun g2 => ?_) (fun g2 => ?_)
   ·
    refine Zl (fun g3 => ?_) (fun g3 => ?_)
    ·
     refine Zl (fun g4 => ?_) (fun g4 => ?_)
     ·
      exact Zk (r := (.r0 (true) : Zt)) (fu := 4000) (orc := (Zh [(0, false), (1, false), (2, true), (3, true), (4, true)] [] [] [] [])) (live := []) (u := vT) (bl := []) (ob := [((decide (a1 ≤ (16 : Int))), true), ((decide ((1 : Int) ≤ a1)), true), ((a0 == (3 : Int)), true), ((a0 == (2 : Int)), false), ((a0 == (1 : Int)), false)]) (by kernel_rfl) (oY <| oY <| oT <| oF <| oF Zb) rfl (by decide) (by rfl) rr trivial
     ·
      exact Zk (r := (.r0 (false) : Zt)) (fu := 4000) (orc := (Zh [(0, false), (1, false), (2, true), (3, true), (4, false)] [] [] [] [])) (live := []) (u := vf) (bl := []) (ob := [((decide (a1 ≤ (16 : Int))), false), ((decide ((1 : Int) ≤ a1)), true), ((a0 == (3 : Int)), true), ((a0 == (2 : Int)), false), ((a0 == (1 : Int)), false)]) (by kernel_rfl) (oN <| oY <| oT <| oF <| oF Zb) rfl (by decide) (by rfl) rr trivial
    ·
     exact Zk (r := (.r0 (false) : Zt)) (fu := 4000) (orc := (Zh [(0, false), (1, false), (2, true), (3, false)] [] [] [] [])) (live := []) (u := vf) (bl := []) (ob := [((decide ((1 : Int) ≤ a1)), false), ((a0 == (3 : Int)), true), ((a0 == (2 : Int)), false), ((a0 == (1 : Int)), false)]) (by kernel_rfl) (oN <| oT <| oF <| oF Zb) rfl (by decide) (by rfl) rr trivial
   ·
    refine Zl (fun g3 => ?_) (fun g3 => ?_)
    ·
     refine Zl (fun g4 => ?_) (fun g4 => ?_)
     ·
      refine Zl (fun g5 => ?_) (fun g5 => ?_)
      ·
       exact Zk (r := (.r0 (true) : Zt)) (fu := 4000) (orc := (Zh [(0, false), (1, false), (2, false), (3, true), (4, true), (5, true)] [] [] [] [])) (live := []) (u := vT) (bl := []) (ob := [((decide (a1 ≤ (512 : Int))), true), ((decide ((0 : Int) ≤ a1)), true), ((a0 == (4 : Int)), true), ((a0 == (3 : Int)), false), ((a0 == (2 : Int)), false), ((a0 == (1 : Int)), false)]) (by kernel_rfl) (oY <| oY <| oT <| oF <| oF <| oF Zb) rfl (by decide) (by rfl) rr trivial
      ·
       exact Zk (r := (.r0 (false) : Zt)) (fu := 4000) (orc := (Zh [(0, false), (1, false), (2, false), (3, true), (4, true), (5, false)] [] [] [] [])) (live := []) (u := vf) (bl := []) (ob := [((decide (a1 ≤ (512 : Int))), false), ((decide ((0 : Int) ≤ a1)), true), ((a0 == (4 : Int)), true), ((a0 == (3 : Int)), false), ((a0 == (2 : Int)), false), ((a0 == (1 : Int)), false)]) (by kernel_rfl) (oN <| oY <| oT <| oF <| oF <| oF Zb) rfl (by decide) (by rfl) rr trivial
     ·
      exact Zk (r := (.r0 (false) : Zt)) (fu := 4000) (orc := (Zh [(0, false), (1, false), (2, false), (3, true), (4, false)] [] [] [] [])) (live := []) (u := vf) (bl := []) (ob := [((decide ((0 : Int) ≤ a1)), false), ((a0 == (4 : Int)), true), ((a0 == (3 : Int)), false), ((a0 == (2 : Int)), false), ((a0 == (1 : Int)), false)]) (by kernel_rfl) (oN <| oT <| oF <| oF <| oF Zb) rfl (by decide) (by rfl) rr trivial
    ·
     refine Zl (fun g4 => ?_) (fun g4 => ?_)
     ·
      refine Zl (fun g5 => ?_) (fun g5 => ?_)
      ·
       refine Zl (fun g6 => ?_) (fun g6 => ?_)
       ·
        refine Zl (fun g7 => ?_) (fun g7 => ?_)
        ·
         refine Zl (fun g8 => ?_) (fun g8 => ?_)
         ·
          exact Zk (r := (.r0 (true) : Zt)) (fu := 4000) (orc := (Zh [(0, false), (1, false), (2, false), (3, false), (4, true), (5, true), (6, true)] [] [] [] [(0, .sh (a2).toNat)])) (live := []) (u := vT) (bl := []) (ob := [((decide (a1 ≤ (IntKind.i64.wrap ((IntKind.i64.wrap ((1 : Int) * (2 ^ (a2).toNat : Int))) - (1 : Int))))), true), ((decide ((0 : Int) ≤ a1)), true), (dP (a2 = Int.ofNat (a2).toNat ∧ (a2).toNat ≤ IntKind.i64.bits), true), ((a0 == (5 : Int)), true), ((a0 == (4 : Int)), false), ((a0 == (3 : Int)), false), ((a0 == (2 : Int)), false), ((a0 == (1 : Int)), false)]) (by kernel_rfl) (oY <| oY <| Za (Zg ⟨by first | rfl | exact ZgI (by omega), show _ ≤ 64 from by omega⟩) <| oT <| oF <| oF <| oF <| oF Zb) rfl (by decide) (by rfl) rr trivial
         ·
          exact Zk (r := (.r0 (false) : Zt)) (fu := 4000) (orc := (Zh [(0, false), (1, false), (2, false), (3, false), (4, true), (5, true), (6, false)] [] [] [] [(0, .sh (a2).toNat)])) (live := []) (u := vf) (bl := []) (ob := [((decide (a1 ≤ (IntKind.i64.wrap ((IntKind.i64.wrap ((1 : Int) * (2 ^ (a2).toNat : Int))) - (1 : Int))))), false), ((decide ((0 : Int) ≤ a1)), true), (dP (a2 = Int.ofNat (a2).toNat ∧ (a2).toNat ≤ IntKind.i64.bits), true), ((a0 == (5 : Int)), true), ((a0 == (4 : Int)), false), ((a0 == (3 : Int)), false), ((a0 == (2 : Int)), false), ((a0 == (1 : Int)), false)]) (by kernel_rfl) (oN <| oY <| Za (Zg ⟨by first | rfl | exact ZgI (by omega), show _ ≤ 64 from by omega⟩) <| oT <| oF <| oF <| oF <| oF Zb) rfl (by decide) (by rfl) rr trivial
        ·
         exact Zk (r := (.r0 (false) : Zt)) (fu := 4000) (orc := (Zh [(0, false), (1, false), (2, false), (3, false), (4, true), (5, false)] [] [] [] [(0, .sh (a2).toNat)])) (live := []) (u := vf) (bl := []) (ob := [((decide ((0 : Int) ≤ a1)), false), (dP (a2 = Int.ofNat (a2).toNat ∧ (a2).toNat ≤ IntKind.i64.bits), true), ((a0 == (5 : Int)), true), ((a0 == (4 : Int)), false), ((a0 == (3 : Int)), false), ((a0 == (2 : Int)), false), ((a0 == (1 : Int)), false)]) (by kernel_rfl) (oN <| Za (Zg ⟨by first | rfl | exact ZgI (by omega), show _ ≤ 64 from by omega⟩) <| oT <| oF <| oF <| oF <| oF Zb) rfl (by decide) (by rfl) rr trivial
       ·
        exact ZdX
      ·
       exact ZdX
     ·
      refine Zl (fun g5 => ?_) (fun g5 => ?_)
      ·
       refine Zl (fun g6 => ?_) (fun g6 => ?_)
       ·
        refine Zl (fun g7 => ?_) (fun g7 => ?_)
        ·
         exact Zk (r := (.r0 (true) : Zt)) (fu := 4000) (orc := (Zh [(0, false), (1, false), (2, false), (3, false), (4, false), (5, true), (6, true), (7, true)] [] [] [] [])) (live := []) (u := vT) (bl := []) (ob := [((decide (a1 ≤ (1099511627776 : Int))), true), ((decide ((-1099511627776 : Int) ≤ a1)), true), ((a0 == (6 : Int)), true), ((a0 == (5 : Int)), false), ((a0 == (4 : Int)), false), ((a0 == (3 : Int)), false), ((a0 == (2 : Int)), false), ((a0 == (1 : Int)), false)]) (by kernel_rfl) (oY <| oY <| oT <| oF <| oF <| oF <| oF <| oF Zb) rfl (by decide) (by rfl) rr trivial
        ·
         exact Zk (r := (.r0 (false) : Zt)) (fu := 4000) (orc := (Zh [(0, false), (1, false), (2, false), (3, false), (4, false), (5, true), (6, true), (7, false)] [] [] [] [])) (live := []) (u := vf) (bl := []) (ob := [((decide (a1 ≤ (1099511627776 : Int))), false), ((decide ((-1099511627776 : Int) ≤ a1)), true), ((a0 == (6 : Int)), true), ((a0 == (5 : Int)), false), ((a0 == (4 : Int)), false), ((a0 == (3 : Int)), false), ((a0 == (2 : Int)), false), ((a0 == (1 : Int)), false)]) (by kernel_rfl) (oN <| oY <| oT <| oF <| oF <| oF <| oF <| oF Zb) rfl (by decide) (by rfl) rr trivial
       ·
        exact Zk (r := (.r0 (false) : Zt)) (fu := 4000) (orc := (Zh [(0, false), (1, false), (2, false), (3, false), (4, false), (5, true), (6, false)] [] [] [] [])) (live := []) (u := vf) (bl := []) (ob := [((decide ((-1099511627776 : Int) ≤ a1)), false), ((a0 == (6 : Int)), true), ((a0 == (5 : Int)), false), ((a0 == (4 : Int)), false), ((a0 == (3 : Int)), false), ((a0 == (2 : Int)), false), ((a0 == (1 : Int)), false)]) (by kernel_rfl) (oN <| oT <| oF <| oF <| oF <| oF <| oF Zb) rfl (by decide) (by rfl) rr trivial
      ·
       refine Zl (fun g6 => ?_) (fun g6 => ?_)
       ·
        refine Zl (fun g7 => ?_) (fun g7 => ?_)
        ·
         exact Zk (r := (.r0 (true) : Zt)) (fu := 4000) (orc := (Zh [(0, false), (1, false), (2, false), (3, false), (4, false), (5, false), (6, true), (7, true)] [] [] [] [])) (live := []) (u := vT) (bl := []) (ob := [((decide (a1 ≤ (0 : Int))), true), ((decide ((0 : Int) ≤ a1)), true), ((a0 == (6 : Int)), false), ((a0 == (5 : Int)), false), ((a0 == (4 : Int)), false), ((a0 == (3 : Int)), false), ((a0 == (2 : Int)), false), ((a0 == (1 : Int)), false)]) (by kernel_rfl) (oY <| oY <| oF <| oF <| oF <| oF <| oF <| oF Zb) rfl (by decide) (by rfl) rr trivial
        ·
         exact Zk (r := (.r0 (false) : Zt)) (fu := 4000) (orc := (Zh [(0, false), (1, false), (2, false), (3, false), (4, false), (5, false), (6, true), (7, false)] [] [] [] [])) (live := []) (u := vf) (bl := []) (ob := [((decide (a1 ≤ (0 : Int))), false), ((decide ((0 : Int) ≤ a1)), true), ((a0 == (6 : Int)), false), ((a0 == (5 : Int)), false), ((a0 == (4 : Int)), false), ((a0 == (3 : Int)), false), ((a0 == (2 : Int)), false), ((a0 == (1 : Int)), false)]) (by kernel_rfl) (oN <| oY <| oF <| oF <| oF <| oF <| oF <| oF Zb) rfl (by decide) (by rfl) rr trivial
       ·
        exact Zk (r := (.r0 (false) : Zt)) (fu := 4000) (orc := (Zh [(0, false), (1, false), (2, false), (3, false), (4, false), (5, false), (6, false)] [] [] [] [])) (live := []) (u := vf) (bl := []) (ob := [((decide ((0 : Int) ≤ a1)), false), ((a0 == (6 : Int)), false), ((a0 == (5 : Int)), false), ((a0 == (4 : Int)), false), ((a0 == (3 : Int)), false), ((a0 == (2 : Int)), false), ((a0 == (1 : Int)), false)]) (by kernel_rfl) (oN <| oF <| oF <| oF <| oF <| oF <| oF Zb) rfl (by decide) (by rfl) rr trivial

theorem Zkq (a0 a1 a2 : Int) (N : Nat) (r : Zt) (h : Zz a0 a1 a2 N = some r) : LSpec Try.prog 35 #[vi a0, vi a1, vi a2] [] (Zib a0 a1 a2 r) (ZhG a0 a1 a2 r) :=
 ZdD ZaR Try.func35 (by kernel_rfl) (by kernel_rfl) (fun r => by cases r <;> exact Zal _ rfl) (ZlZ a0 a1 a2 N) h

noncomputable def ZcS (a0 a1 a2 : Int) (w0 : Bool) (n : Nat) : Za4 := .call [] (Value.bool w0) [] 0
def Zck (A : Array Value) (a0 a1 a2 : Int) (w0 : Bool) (n : Nat) : Prop := ZB Try.prog 35 A [] (Value.bool w0) [] n 0

theorem ZcT (A : Array Value) (a0 a1 a2 : Int) (w0 : Bool) (N : Nat) (h : Zz a0 a1 a2 N = some (.r0 w0)) (n : Nat) (hA : A = #[vi a0, vi a1, vi a2]) (hnd : ([] : List Nat).Nodup) (hlt : ∀ k ∈ ([] : List Nat), k < n) : Zck A a0 a1 a2 w0  n :=
 ZQ hA (LSpec.callL (show LSpec Try.prog 35 #[vi a0, vi a1, vi a2] [] (Value.bool w0) [] from Zkq a0 a1 a2 N _ h) [] n [] rfl hnd hlt (show 0 ≤ 0 from by decide) (show ∀ j ∈ ([] : List Nat), j < 0 from by decide) (by rfl) trivial (by rfl) trivial trivial rfl rfl rfl rfl rfl)

noncomputable def ZmN (a0 a1 a2 a3 : Int) : Za9 → Value
 | .r0 w0 => vi w0
noncomputable def ZlF (a0 a1 a2 a3 : Int) : Za9 → List (Option AObj)
 | .r0 w0 => []

def Zro : Zo → Nat
 | .h1m0 v1 v2 v3 => 1
 | .h1m1 v1 v2 v3 => 1
 | .h1m2 v1 v2 v3 => 1
 | .h1m3 v1 v2 v3 => 1
noncomputable def ZsG (a0 a1 a2 a3 : Int) : Zo → List (Nat × Value)
 | .h1m0 v1 v2 v3 => [(4, vp 0 0), (5, vq), (22, Value.agg #[vi (v1 : Int), vi (v2 : Int), vi (v3 : Int)]), (23, vq)]
 | .h1m1 v1 v2 v3 => [(4, vp 0 0), (5, vi a1), (22, Value.agg #[vi (v1 : Int), vi (v2 : Int), vi (v3 : Int)]), (23, vi (1 : Int))]
 | .h1m2 v1 v2 v3 => [(4, vp 0 0), (5, vi a2), (22, Value.agg #[vi (v1 : Int), vi (v2 : Int), vi (v3 : Int)]), (23, vi (2 : Int))]
 | .h1m3 v1 v2 v3 => [(4, vp 0 0), (5, vi a3), (22, Value.agg #[vi (v1 : Int), vi (v2 : Int), vi (v3 : Int)]), (23, vi (3 : Int))]
noncomputable def ZsH (a0 a1 a2 a3 : Int) : Zo → List (Option AObj)
 | .h1m0 v1 v2 v3 => [some (.cells [vi a1, vi a2, vi a3] 52)]
 | .h1m1 v1 v2 v3 => [some (.cells [vi a1, vi a2, vi a3] 52)]
 | .h1m2 v1 v2 v3 => [some (.cells [vi a1, vi a2, vi a3] 52)]
 | .h1m3 v1 v2 v3 => [some (.cells [vi a1, vi a2, vi a3] 52)]

noncomputable def ZA : Nat → Code × List Za2
 | 1 => Zbz [1, 1, 1, 1, 1, 0, 1, 3] (Zbh Try.f21) []
 | _ => (.skip, [])
def ZlG : Nat → Bool
 | 1 => true
 | _ => true
noncomputable def ZiN (i : Nat) : List Za2 := match ZlG i with | true => .rnd i :: (ZA i).2 | false => (ZA i).2

noncomputable def ZM (a0 a1 a2 a3 : Int) (N : Nat) : Mach := ⟨Try.f21, [], Zo, Za9, Zc1 a0 a1 a2 a3 N, Zro, ZA, ZlG, ZsG a0 a1 a2 a3, ZsH a0 a1 a2 a3, ZmN a0 a1 a2 a3, ZlF a0 a1 a2 a3⟩

theorem ZnL (a0 a1 a2 a3 : Int) (v1 v2 v3 N : Nat) : (ZM a0 a1 a2 a3 N).Ok Try.prog Zj (.h1m0 v1 v2 v3 : Zo) (Zc1 a0 a1 a2 a3 N (.h1m0 v1 v2 v3 : Zo)) := by
 show (ZM a0 a1 a2 a3 N).Ok Try.prog Zj (.h1m0 v1 v2 v3 : Zo) (ZcO a0 a1 a2 a3 N v1 v2 v3)
 unfold ZcO
 refine Mach.ok_bind (fun z0 c0 => ?_)
 cases z0 with
 | r0 y0_0 =>
  refine Mach.ok_ite (fun g1 => ?_) (fun g1 => ?_)
  ·
   exact Mach.ok_fin (M := ZM a0 a1 a2 a3 N) (cd := 1000000) (cm := 0) (r := (.r0 ((100 : Int)) : Za9)) (fu := 4000) (orc := (Zh [(1, true)] [] [] [] [(0, (ZcS ((v1 : Int)) (a1) ((0 : Int))  y0_0  1))])) (live := []) (u := vi (100 : Int)) (bl := []) (ob := [((!y0_0), true), (dP (Zck #[vi (v1 : Int), vi a1, vq] ((v1 : Int)) (a1) ((0 : Int))  y0_0  1), true)]) (fun gv => by kernel_rfl) (Za (Zkp (by first | assumption | simp_all)) <| Za (Zg (ZcT #[vi (v1 : Int), vi a1, vq] ((v1 : Int)) (a1) ((0 : Int))  y0_0 N c0  1 rfl (by decide) (by decide))) Zb) rfl (by decide) (by rfl) rr trivial
  ·
   exact Mach.ok_next (M := ZM a0 a1 a2 a3 N) (cd := 1000000) (cm := 0) (y := (.h1m1 (v1) (v2) (v3) : Zo)) (fu := 4000) (orc := (Zh [(1, false)] [] [] [] [(0, (ZcS ((v1 : Int)) (a1) ((0 : Int))  y0_0  1))])) (live := [0]) (tv := fun _ => [some (vp 0 0), some (vi a1), some (Value.agg #[vi (v1 : Int), vi (v2 : Int), vi (v3 : Int)]), some (vi (1 : Int))]) (bl := [some (.cells [vi a1, vi a2, vi a3] 52)]) (ob := [((!y0_0), false), (dP (Zck #[vi (v1 : Int), vi a1, vq] ((v1 : Int)) (a1) ((0 : Int))  y0_0  1), true)]) rfl (show 1 ∈ Zq (ZiN 1) from by decide +kernel) (fun gv => by kernel_rfl) (Za (Zb8 (by first | assumption | exact Decidable.not_not.1 (by assumption) | simp_all)) <| Za (Zg (ZcT #[vi (v1 : Int), vi a1, vq] ((v1 : Int)) (a1) ((0 : Int))  y0_0 N c0  1 rfl (by decide) (by decide))) Zb) rfl (by decide) (by rfl) (fun _ => ⟨rr, ⟨rr, ⟨rr, ⟨rr, trivial⟩⟩⟩⟩) ⟨⟨rfl, ⟨[], by rfl⟩, by rfl⟩, trivial⟩

theorem ZnM (a0 a1 a2 a3 : Int) (v1 v2 v3 N : Nat) : (ZM a0 a1 a2 a3 N).Ok Try.prog Zj (.h1m1 v1 v2 v3 : Zo) (Zc1 a0 a1 a2 a3 N (.h1m1 v1 v2 v3 : Zo)) := by
 show (ZM a0 a1 a2 a3 N).Ok Try.prog Zj (.h1m1 v1 v2 v3 : Zo) (ZcP a0 a1 a2 a3 N v1 v2 v3)
 unfold ZcP
 refine Mach.ok_bind (fun z0 c0 => ?_)
 cases z0 with
 | r0 y0_0 =>
  refine Mach.ok_ite (fun g1 => ?_) (fun g1 => ?_)
  ·
   exact Mach.ok_fin (M := ZM a0 a1 a2 a3 N) (cd := 1000000) (cm := 0) (r := (.r0 ((100 : Int)) : Za9)) (fu := 4000) (orc := (Zh [(1, true)] [] [] [] [(0, (ZcS ((v2 : Int)) (a2) (a1)  y0_0  1))])) (live := []) (u := vi (100 : Int)) (bl := []) (ob := [((!y0_0), true), (dP (Zck #[vi (v2 : Int), vi a2, vi a1] ((v2 : Int)) (a2) (a1)  y0_0  1), true)]) (fun gv => by kernel_rfl) (Za (Zkp (by first | assumption | simp_all)) <| Za (Zg (ZcT #[vi (v2 : Int), vi a2, vi a1] ((v2 : Int)) (a2) (a1)  y0_0 N c0  1 rfl (by decide) (by decide))) Zb) rfl (by decide) (by rfl) rr trivial
  ·
   exact Mach.ok_next (M := ZM a0 a1 a2 a3 N) (cd := 1000000) (cm := 0) (y := (.h1m2 (v1) (v2) (v3) : Zo)) (fu := 4000) (orc := (Zh [(1, false)] [] [] [] [(0, (ZcS ((v2 : Int)) (a2) (a1)  y0_0  1))])) (live := [0]) (tv := fun _ => [some (vp 0 0), some (vi a2), some (Value.agg #[vi (v1 : Int), vi (v2 : Int), vi (v3 : Int)]), some (vi (2 : Int))]) (bl := [some (.cells [vi a1, vi a2, vi a3] 52)]) (ob := [((!y0_0), false), (dP (Zck #[vi (v2 : Int), vi a2, vi a1] ((v2 : Int)) (a2) (a1)  y0_0  1), true)]) rfl (show 1 ∈ Zq (ZiN 1) from by decide +kernel) (fun gv => by kernel_rfl) (Za (Zb8 (by first | assumption | exact Decidable.not_not.1 (by assumption) | simp_all)) <| Za (Zg (ZcT #[vi (v2 : Int), vi a2, vi a1] ((v2 : Int)) (a2) (a1)  y0_0 N c0  1 rfl (by decide) (by decide))) Zb) rfl (by decide) (by rfl) (fun _ => ⟨rr, ⟨rr, ⟨rr, ⟨rr, trivial⟩⟩⟩⟩) ⟨⟨rfl, ⟨[], by rfl⟩, by rfl⟩, trivial⟩

theorem ZnN (a0 a1 a2 a3 : Int) (v1 v2 v3 N : Nat) : (ZM a0 a1 a2 a3 N).Ok Try.prog Zj (.h1m2 v1 v2 v3 : Zo) (Zc1 a0 a1 a2 a3 N (.h1m2 v1 v2 v3 : Zo)) := by
 show (ZM a0 a1 a2 a3 N).Ok Try.prog Zj (.h1m2 v1 v2 v3 : Zo) (ZcQ a0 a1 a2 a3 N v1 v2 v3)
 unfold ZcQ
 refine Mach.ok_bind (fun z0 c0 => ?_)
 cases z0 with
 | r0 y0_0 =>
  refine Mach.ok_ite (fun g1 => ?_) (fun g1 => ?_)
  ·
   exact Mach.ok_fin (M := ZM a0 a1 a2 a3 N) (cd := 1000000) (cm := 0) (r := (.r0 ((100 : Int)) : Za9)) (fu := 4000) (orc := (Zh [(1, true)] [] [] [] [(0, (ZcS ((v3 : Int)) (a3) (a2)  y0_0  1))])) (live := []) (u := vi (100 : Int)) (bl := []) (ob := [((!y0_0), true), (dP (Zck #[vi (v3 : Int), vi a3, vi a2] ((v3 : Int)) (a3) (a2)  y0_0  1), true)]) (fun gv => by kernel_rfl) (Za (Zkp (by first | assumption | simp_all)) <| Za (Zg (ZcT #[vi (v3 : Int), vi a3, vi a2] ((v3 : Int)) (a3) (a2)  y0_0 N c0  1 rfl (by decide) (by decide))) Zb) rfl (by decide) (by rfl) rr trivial
  ·
   exact Mach.ok_next (M := ZM a0 a1 a2 a3 N) (cd := 1000000) (cm := 0) (y := (.h1m3 (v1) (v2) (v3) : Zo)) (fu := 4000) (orc := (Zh [(1, false)] [] [] [] [(0, (ZcS ((v3 : Int)) (a3) (a2)  y0_0  1))])) (live := [0]) (tv := fun _ => [some (vp 0 0), some (vi a3), some (Value.agg #[vi (v1 : Int), vi (v2 : Int), vi (v3 : Int)]), some (vi (3 : Int))]) (bl := [some (.cells [vi a1, vi a2, vi a3] 52)]) (ob := [((!y0_0), false), (dP (Zck #[vi (v3 : Int), vi a3, vi a2] ((v3 : Int)) (a3) (a2)  y0_0  1), true)]) rfl (show 1 ∈ Zq (ZiN 1) from by decide +kernel) (fun gv => by kernel_rfl) (Za (Zb8 (by first | assumption | exact Decidable.not_not.1 (by assumption) | simp_all)) <| Za (Zg (ZcT #[vi (v3 : Int), vi a3, vi a2] ((v3 : Int)) (a3) (a2)  y0_0 N c0  1 rfl (by decide) (by decide))) Zb) rfl (by decide) (by rfl) (fun _ => ⟨rr, ⟨rr, ⟨rr, ⟨rr, trivial⟩⟩⟩⟩) ⟨⟨rfl, ⟨[], by rfl⟩, by rfl⟩, trivial⟩

theorem ZnO (a0 a1 a2 a3 : Int) (v1 v2 v3 N : Nat) : (ZM a0 a1 a2 a3 N).Ok Try.prog Zj (.h1m3 v1 v2 v3 : Zo) (Zc1 a0 a1 a2 a3 N (.h1m3 v1 v2 v3 : Zo)) := by
 show (ZM a0 a1 a2 a3 N).Ok Try.prog Zj (.h1m3 v1 v2 v3 : Zo) (Zfg a0 a1 a2 a3 N v1 v2 v3)
 unfold Zfg
 exact Mach.ok_fin (M := ZM a0 a1 a2 a3 N) (cd := 1000000) (cm := 0) (r := (.r0 ((0 : Int)) : Za9)) (fu := 4000) (orc := (Zh [] [] [] [] [])) (live := []) (u := vq) (bl := []) (ob := []) (fun gv => by kernel_rfl) Zb rfl (by decide) (by rfl) rr trivial

theorem Zqc (a0 a1 a2 a3 : Int) (N : Nat) : (ZM a0 a1 a2 a3 N).Enter Try.prog Zj #[Value.agg #[vi a0, vi a1, vi a2, vi a3]] (Zam a0 a1 a2 a3 N) := by
 unfold Zam
 refine Mach.en_bind (fun z0 c0 => ?_)
 cases z0 with
 | r0 =>
  exact Mach.en_fin (M := ZM a0 a1 a2 a3 N) (cd := 1000000) (cm := 0) (r := (.r0 ((100 : Int)) : Za9)) (fu := 4000) (orc := (Zh [] [] [] [] [(0, (Zsw (a0)    1))])) (live := []) (u := vi (100 : Int)) (bl := []) (ob := [(dP (ZmD #[vi a0] (a0)    1), true)]) (by kernel_rfl) (Za (Zg (Zsx #[vi a0] (a0)   N c0  1 rfl (by decide) (by decide))) Zb) rfl (by decide) (by rfl) rr trivial
 | r1 =>
  exact Mach.en_head (bK := ZA 1) (M := ZM a0 a1 a2 a3 N) (cd := 1000000) (cm := 0) (y := (.h1m0 (1) (6) (0) : Zo)) (fu := 4000) (orc := (Zh [] [] [] [] [(0, (Zsy (a0)    1))])) (live := [2]) (tv := [some (vp 2 0), some (vq), some (Value.agg #[vi (1 : Int), vi (6 : Int), vq]), some (vq)]) (bl := [some (.cells [vi a1, vi a2, vi a3] 52)]) (ob := [(dP (ZmE #[vi a0] (a0)    1), true)]) rfl rfl (show Zq (ZA 1).2 = [] from rfl) (by kernel_rfl) (Za (Zg (Zsz #[vi a0] (a0)   N c0  1 rfl (by decide) (by decide))) Zb) rfl (by decide) (by rfl) ⟨rr, ⟨rr, ⟨⟨Eq.trans (show (Value.agg #[vi ((1 : Nat) : Int), vi ((6 : Nat) : Int), vi ((0 : Nat) : Int)] : Value) = Value.agg #[vi (1 : Int), vi (6 : Int), vq] from (Za8 (Zf (congrArg (Value.int .i64) (by first | rfl | omega)) (Zf (congrArg (Value.int .i64) (by first | rfl | omega)) (Zf (congrArg (Value.int .i64) (by first | rfl | omega)) rfl))))) (by rfl), by rfl⟩, ⟨rr, trivial⟩⟩⟩⟩ ⟨⟨rfl, ⟨[], by rfl⟩, by rfl⟩, trivial⟩
 | r2 =>
  exact Mach.en_head (bK := ZA 1) (M := ZM a0 a1 a2 a3 N) (cd := 1000000) (cm := 0) (y := (.h1m0 (1) (0) (0) : Zo)) (fu := 4000) (orc := (Zh [] [] [] [] [(0, (Zs0 (a0)    1))])) (live := [2]) (tv := [some (vp 2 0), some (vq), some (Value.agg #[vi (1 : Int), vq, vq]), some (vq)]) (bl := [some (.cells [vi a1, vi a2, vi a3] 52)]) (ob := [(dP (ZmF #[vi a0] (a0)    1), true)]) rfl rfl (show Zq (ZA 1).2 = [] from rfl) (by kernel_rfl) (Za (Zg (Zs1 #[vi a0] (a0)   N c0  1 rfl (by decide) (by decide))) Zb) rfl (by decide) (by rfl) ⟨rr, ⟨rr, ⟨⟨Eq.trans (show (Value.agg #[vi ((1 : Nat) : Int), vi ((0 : Nat) : Int), vi ((0 : Nat) : Int)] : Value) = Value.agg #[vi (1 : Int), vq, vq] from (Za8 (Zf (congrArg (Value.int .i64) (by first | rfl | omega)) (Zf (congrArg (Value.int .i64) (by first | rfl | omega)) (Zf (congrArg (Value.int .i64) (by first | rfl | omega)) rfl))))) (by rfl), by rfl⟩, ⟨rr, trivial⟩⟩⟩⟩ ⟨⟨rfl, ⟨[], by rfl⟩, by rfl⟩, trivial⟩
 | r3 =>
  exact Mach.en_head (bK := ZA 1) (M := ZM a0 a1 a2 a3 N) (cd := 1000000) (cm := 0) (y := (.h1m0 (1) (1) (0) : Zo)) (fu := 4000) (orc := (Zh [] [] [] [] [(0, (Zs2 (a0)    1))])) (live := [2]) (tv := [some (vp 2 0), some (vq), some (Value.agg #[vi (1 : Int), vi (1 : Int), vq]), some (vq)]) (bl := [some (.cells [vi a1, vi a2, vi a3] 52)]) (ob := [(dP (ZmG #[vi a0] (a0)    1), true)]) rfl rfl (show Zq (ZA 1).2 = [] from rfl) (by kernel_rfl) (Za (Zg (Zs3 #[vi a0] (a0)   N c0  1 rfl (by decide) (by decide))) Zb) rfl (by decide) (by rfl) ⟨rr, ⟨rr, ⟨⟨Eq.trans (show (Value.agg #[vi ((1 : Nat) : Int), vi ((1 : Nat) : Int), vi ((0 : Nat) : Int)] : Value) = Value.agg #[vi (1 : Int), vi (1 : Int), vq] from (Za8 (Zf (congrArg (Value.int .i64) (by first | rfl | omega)) (Zf (congrArg (Value.int .i64) (by first | rfl | omega)) (Zf (congrArg (Value.int .i64) (by first | rfl | omega)) rfl))))) (by rfl), by rfl⟩, ⟨rr, trivial⟩⟩⟩⟩ ⟨⟨rfl, ⟨[], by rfl⟩, by rfl⟩, trivial⟩
 | r4 =>
  exact Mach.en_head (bK := ZA 1) (M := ZM a0 a1 a2 a3 N) (cd := 1000000) (cm := 0) (y := (.h1m0 (1) (1) (1) : Zo)) (fu := 4000) (orc := (Zh [] [] [] [] [(0, (Zs4 (a0)    1))])) (live := [2]) (tv := [some (vp 2 0), some (vq), some (Value.agg #[vi (1 : Int), vi (1 : Int), vi (1 : Int)]), some (vq)]) (bl := [some (.cells [vi a1, vi a2, vi a3] 52)]) (ob := [(dP (ZmH #[vi a0] (a0)    1), true)]) rfl rfl (show Zq (ZA 1).2 = [] from rfl) (by kernel_rfl) (Za (Zg (Zs5 #[vi a0] (a0)   N c0  1 rfl (by decide) (by decide))) Zb) rfl (by decide) (by rfl) ⟨rr, ⟨rr, ⟨⟨Eq.trans (show (Value.agg #[vi ((1 : Nat) : Int), vi ((1 : Nat) : Int), vi ((1 : Nat) : Int)] : Value) = Value.agg #[vi (1 : Int), vi (1 : Int), vi (1 : Int)] from (Za8 (Zf (congrArg (Value.int .i64) (by first | rfl | omega)) (Zf (congrArg (Value.int .i64) (by first | rfl | omega)) (Zf (congrArg (Value.int .i64) (by first | rfl | omega)) rfl))))) (by rfl), by rfl⟩, ⟨rr, trivial⟩⟩⟩⟩ ⟨⟨rfl, ⟨[], by rfl⟩, by rfl⟩, trivial⟩
 | r5 =>
  exact Mach.en_head (bK := ZA 1) (M := ZM a0 a1 a2 a3 N) (cd := 1000000) (cm := 0) (y := (.h1m0 (1) (1) (1) : Zo)) (fu := 4000) (orc := (Zh [] [] [] [] [(0, (Zs6 (a0)    1))])) (live := [2]) (tv := [some (vp 2 0), some (vq), some (Value.agg #[vi (1 : Int), vi (1 : Int), vi (1 : Int)]), some (vq)]) (bl := [some (.cells [vi a1, vi a2, vi a3] 52)]) (ob := [(dP (ZmI #[vi a0] (a0)    1), true)]) rfl rfl (show Zq (ZA 1).2 = [] from rfl) (by kernel_rfl) (Za (Zg (Zs7 #[vi a0] (a0)   N c0  1 rfl (by decide) (by decide))) Zb) rfl (by decide) (by rfl) ⟨rr, ⟨rr, ⟨⟨Eq.trans (show (Value.agg #[vi ((1 : Nat) : Int), vi ((1 : Nat) : Int), vi ((1 : Nat) : Int)] : Value) = Value.agg #[vi (1 : Int), vi (1 : Int), vi (1 : Int)] from (Za8 (Zf (congrArg (Value.int .i64) (by first | rfl | omega)) (Zf (congrArg (Value.int .i64) (by first | rfl | omega)) (Zf (congrArg (Value.int .i64) (by first | rfl | omega)) rfl))))) (by rfl), by rfl⟩, ⟨rr, trivial⟩⟩⟩⟩ ⟨⟨rfl, ⟨[], by rfl⟩, by rfl⟩, trivial⟩
 | r6 =>
  exact Mach.en_head (bK := ZA 1) (M := ZM a0 a1 a2 a3 N) (cd := 1000000) (cm := 0) (y := (.h1m0 (1) (1) (1) : Zo)) (fu := 4000) (orc := (Zh [] [] [] [] [(0, (Zs8 (a0)    1))])) (live := [2]) (tv := [some (vp 2 0), some (vq), some (Value.agg #[vi (1 : Int), vi (1 : Int), vi (1 : Int)]), some (vq)]) (bl := [some (.cells [vi a1, vi a2, vi a3] 52)]) (ob := [(dP (ZmJ #[vi a0] (a0)    1), true)]) rfl rfl (show Zq (ZA 1).2 = [] from rfl) (by kernel_rfl) (Za (Zg (Zs9 #[vi a0] (a0)   N c0  1 rfl (by decide) (by decide))) Zb) rfl (by decide) (by rfl) ⟨rr, ⟨rr, ⟨⟨Eq.trans (show (Value.agg #[vi ((1 : Nat) : Int), vi ((1 : Nat) : Int), vi ((1 : Nat) : Int)] : Value) = Value.agg #[vi (1 : Int), vi (1 : Int), vi (1 : Int)] from (Za8 (Zf (congrArg (Value.int .i64) (by first | rfl | omega)) (Zf (congrArg (Value.int .i64) (by first | rfl | omega)) (Zf (congrArg (Value.int .i64) (by first | rfl | omega)) rfl))))) (by rfl), by rfl⟩, ⟨rr, trivial⟩⟩⟩⟩ ⟨⟨rfl, ⟨[], by rfl⟩, by rfl⟩, trivial⟩
 | r7 =>
  exact Mach.en_head (bK := ZA 1) (M := ZM a0 a1 a2 a3 N) (cd := 1000000) (cm := 0) (y := (.h1m0 (1) (1) (1) : Zo)) (fu := 4000) (orc := (Zh [] [] [] [] [(0, (ZsA (a0)    1))])) (live := [2]) (tv := [some (vp 2 0), some (vq), some (Value.agg #[vi (1 : Int), vi (1 : Int), vi (1 : Int)]), some (vq)]) (bl := [some (.cells [vi a1, vi a2, vi a3] 52)]) (ob := [(dP (ZmK #[vi a0] (a0)    1), true)]) rfl rfl (show Zq (ZA 1).2 = [] from rfl) (by kernel_rfl) (Za (Zg (ZsB #[vi a0] (a0)   N c0  1 rfl (by decide) (by decide))) Zb) rfl (by decide) (by rfl) ⟨rr, ⟨rr, ⟨⟨Eq.trans (show (Value.agg #[vi ((1 : Nat) : Int), vi ((1 : Nat) : Int), vi ((1 : Nat) : Int)] : Value) = Value.agg #[vi (1 : Int), vi (1 : Int), vi (1 : Int)] from (Za8 (Zf (congrArg (Value.int .i64) (by first | rfl | omega)) (Zf (congrArg (Value.int .i64) (by first | rfl | omega)) (Zf (congrArg (Value.int .i64) (by first | rfl | omega)) rfl))))) (by rfl), by rfl⟩, ⟨rr, trivial⟩⟩⟩⟩ ⟨⟨rfl, ⟨[], by rfl⟩, by rfl⟩, trivial⟩
 | r8 =>
  exact Mach.en_head (bK := ZA 1) (M := ZM a0 a1 a2 a3 N) (cd := 1000000) (cm := 0) (y := (.h1m0 (4) (0) (0) : Zo)) (fu := 4000) (orc := (Zh [] [] [] [] [(0, (ZsC (a0)    1))])) (live := [2]) (tv := [some (vp 2 0), some (vq), some (Value.agg #[vi (4 : Int), vq, vq]), some (vq)]) (bl := [some (.cells [vi a1, vi a2, vi a3] 52)]) (ob := [(dP (ZmL #[vi a0] (a0)    1), true)]) rfl rfl (show Zq (ZA 1).2 = [] from rfl) (by kernel_rfl) (Za (Zg (ZsD #[vi a0] (a0)   N c0  1 rfl (by decide) (by decide))) Zb) rfl (by decide) (by rfl) ⟨rr, ⟨rr, ⟨⟨Eq.trans (show (Value.agg #[vi ((4 : Nat) : Int), vi ((0 : Nat) : Int), vi ((0 : Nat) : Int)] : Value) = Value.agg #[vi (4 : Int), vq, vq] from (Za8 (Zf (congrArg (Value.int .i64) (by first | rfl | omega)) (Zf (congrArg (Value.int .i64) (by first | rfl | omega)) (Zf (congrArg (Value.int .i64) (by first | rfl | omega)) rfl))))) (by rfl), by rfl⟩, ⟨rr, trivial⟩⟩⟩⟩ ⟨⟨rfl, ⟨[], by rfl⟩, by rfl⟩, trivial⟩
 | r9 =>
  exact Mach.en_head (bK := ZA 1) (M := ZM a0 a1 a2 a3 N) (cd := 1000000) (cm := 0) (y := (.h1m0 (1) (4) (0) : Zo)) (fu := 4000) (orc := (Zh [] [] [] [] [(0, (ZsE (a0)    1))])) (live := [2]) (tv := [some (vp 2 0), some (vq), some (Value.agg #[vi (1 : Int), vi (4 : Int), vq]), some (vq)]) (bl := [some (.cells [vi a1, vi a2, vi a3] 52)]) (ob := [(dP (ZmM #[vi a0] (a0)    1), true)]) rfl rfl (show Zq (ZA 1).2 = [] from rfl) (by kernel_rfl) (Za (Zg (ZsF #[vi a0] (a0)   N c0  1 rfl (by decide) (by decide))) Zb) rfl (by decide) (by rfl) ⟨rr, ⟨rr, ⟨⟨Eq.trans (show (Value.agg #[vi ((1 : Nat) : Int), vi ((4 : Nat) : Int), vi ((0 : Nat) : Int)] : Value) = Value.agg #[vi (1 : Int), vi (4 : Int), vq] from (Za8 (Zf (congrArg (Value.int .i64) (by first | rfl | omega)) (Zf (congrArg (Value.int .i64) (by first | rfl | omega)) (Zf (congrArg (Value.int .i64) (by first | rfl | omega)) rfl))))) (by rfl), by rfl⟩, ⟨rr, trivial⟩⟩⟩⟩ ⟨⟨rfl, ⟨[], by rfl⟩, by rfl⟩, trivial⟩
 | r10 =>
  exact Mach.en_head (bK := ZA 1) (M := ZM a0 a1 a2 a3 N) (cd := 1000000) (cm := 0) (y := (.h1m0 (1) (0) (0) : Zo)) (fu := 4000) (orc := (Zh [] [] [] [] [(0, (ZqS (a0)    1))])) (live := [2]) (tv := [some (vp 2 0), some (vq), some (Value.agg #[vi (1 : Int), vq, vq]), some (vq)]) (bl := [some (.cells [vi a1, vi a2, vi a3] 52)]) (ob := [(dP (Zl4 #[vi a0] (a0)    1), true)]) rfl rfl (show Zq (ZA 1).2 = [] from rfl) (by kernel_rfl) (Za (Zg (ZqT #[vi a0] (a0)   N c0  1 rfl (by decide) (by decide))) Zb) rfl (by decide) (by rfl) ⟨rr, ⟨rr, ⟨⟨Eq.trans (show (Value.agg #[vi ((1 : Nat) : Int), vi ((0 : Nat) : Int), vi ((0 : Nat) : Int)] : Value) = Value.agg #[vi (1 : Int), vq, vq] from (Za8 (Zf (congrArg (Value.int .i64) (by first | rfl | omega)) (Zf (congrArg (Value.int .i64) (by first | rfl | omega)) (Zf (congrArg (Value.int .i64) (by first | rfl | omega)) rfl))))) (by rfl), by rfl⟩, ⟨rr, trivial⟩⟩⟩⟩ ⟨⟨rfl, ⟨[], by rfl⟩, by rfl⟩, trivial⟩
 | r11 =>
  exact Mach.en_head (bK := ZA 1) (M := ZM a0 a1 a2 a3 N) (cd := 1000000) (cm := 0) (y := (.h1m0 (1) (3) (5) : Zo)) (fu := 4000) (orc := (Zh [] [] [] [] [(0, (ZqU (a0)    1))])) (live := [2]) (tv := [some (vp 2 0), some (vq), some (Value.agg #[vi (1 : Int), vi (3 : Int), vi (5 : Int)]), some (vq)]) (bl := [some (.cells [vi a1, vi a2, vi a3] 52)]) (ob := [(dP (Zl5 #[vi a0] (a0)    1), true)]) rfl rfl (show Zq (ZA 1).2 = [] from rfl) (by kernel_rfl) (Za (Zg (ZqV #[vi a0] (a0)   N c0  1 rfl (by decide) (by decide))) Zb) rfl (by decide) (by rfl) ⟨rr, ⟨rr, ⟨⟨Eq.trans (show (Value.agg #[vi ((1 : Nat) : Int), vi ((3 : Nat) : Int), vi ((5 : Nat) : Int)] : Value) = Value.agg #[vi (1 : Int), vi (3 : Int), vi (5 : Int)] from (Za8 (Zf (congrArg (Value.int .i64) (by first | rfl | omega)) (Zf (congrArg (Value.int .i64) (by first | rfl | omega)) (Zf (congrArg (Value.int .i64) (by first | rfl | omega)) rfl))))) (by rfl), by rfl⟩, ⟨rr, trivial⟩⟩⟩⟩ ⟨⟨rfl, ⟨[], by rfl⟩, by rfl⟩, trivial⟩
 | r12 =>
  exact Mach.en_head (bK := ZA 1) (M := ZM a0 a1 a2 a3 N) (cd := 1000000) (cm := 0) (y := (.h1m0 (1) (0) (0) : Zo)) (fu := 4000) (orc := (Zh [] [] [] [] [(0, (ZqW (a0)    1))])) (live := [2]) (tv := [some (vp 2 0), some (vq), some (Value.agg #[vi (1 : Int), vq, vq]), some (vq)]) (bl := [some (.cells [vi a1, vi a2, vi a3] 52)]) (ob := [(dP (Zl6 #[vi a0] (a0)    1), true)]) rfl rfl (show Zq (ZA 1).2 = [] from rfl) (by kernel_rfl) (Za (Zg (ZqX #[vi a0] (a0)   N c0  1 rfl (by decide) (by decide))) Zb) rfl (by decide) (by rfl) ⟨rr, ⟨rr, ⟨⟨Eq.trans (show (Value.agg #[vi ((1 : Nat) : Int), vi ((0 : Nat) : Int), vi ((0 : Nat) : Int)] : Value) = Value.agg #[vi (1 : Int), vq, vq] from (Za8 (Zf (congrArg (Value.int .i64) (by first | rfl | omega)) (Zf (congrArg (Value.int .i64) (by first | rfl | omega)) (Zf (congrArg (Value.int .i64) (by first | rfl | omega)) rfl))))) (by rfl), by rfl⟩, ⟨rr, trivial⟩⟩⟩⟩ ⟨⟨rfl, ⟨[], by rfl⟩, by rfl⟩, trivial⟩
 | r13 =>
  exact Mach.en_head (bK := ZA 1) (M := ZM a0 a1 a2 a3 N) (cd := 1000000) (cm := 0) (y := (.h1m0 (1) (1) (2) : Zo)) (fu := 4000) (orc := (Zh [] [] [] [] [(0, (ZqY (a0)    1))])) (live := [2]) (tv := [some (vp 2 0), some (vq), some (Value.agg #[vi (1 : Int), vi (1 : Int), vi (2 : Int)]), some (vq)]) (bl := [some (.cells [vi a1, vi a2, vi a3] 52)]) (ob := [(dP (Zl7 #[vi a0] (a0)    1), true)]) rfl rfl (show Zq (ZA 1).2 = [] from rfl) (by kernel_rfl) (Za (Zg (ZqZ #[vi a0] (a0)   N c0  1 rfl (by decide) (by decide))) Zb) rfl (by decide) (by rfl) ⟨rr, ⟨rr, ⟨⟨Eq.trans (show (Value.agg #[vi ((1 : Nat) : Int), vi ((1 : Nat) : Int), vi ((2 : Nat) : Int)] : Value) = Value.agg #[vi (1 : Int), vi (1 : Int), vi (2 : Int)] from (Za8 (Zf (congrArg (Value.int .i64) (by first | rfl | omega)) (Zf (congrArg (Value.int .i64) (by first | rfl | omega)) (Zf (congrArg (Value.int .i64) (by first | rfl | omega)) rfl))))) (by rfl), by rfl⟩, ⟨rr, trivial⟩⟩⟩⟩ ⟨⟨rfl, ⟨[], by rfl⟩, by rfl⟩, trivial⟩
 | r14 =>
  exact Mach.en_head (bK := ZA 1) (M := ZM a0 a1 a2 a3 N) (cd := 1000000) (cm := 0) (y := (.h1m0 (1) (2) (1) : Zo)) (fu := 4000) (orc := (Zh [] [] [] [] [(0, (Zra (a0)    1))])) (live := [2]) (tv := [some (vp 2 0), some (vq), some (Value.agg #[vi (1 : Int), vi (2 : Int), vi (1 : Int)]), some (vq)]) (bl := [some (.cells [vi a1, vi a2, vi a3] 52)]) (ob := [(dP (Zl8 #[vi a0] (a0)    1), true)]) rfl rfl (show Zq (ZA 1).2 = [] from rfl) (by kernel_rfl) (Za (Zg (Zrb #[vi a0] (a0)   N c0  1 rfl (by decide) (by decide))) Zb) rfl (by decide) (by rfl) ⟨rr, ⟨rr, ⟨⟨Eq.trans (show (Value.agg #[vi ((1 : Nat) : Int), vi ((2 : Nat) : Int), vi ((1 : Nat) : Int)] : Value) = Value.agg #[vi (1 : Int), vi (2 : Int), vi (1 : Int)] from (Za8 (Zf (congrArg (Value.int .i64) (by first | rfl | omega)) (Zf (congrArg (Value.int .i64) (by first | rfl | omega)) (Zf (congrArg (Value.int .i64) (by first | rfl | omega)) rfl))))) (by rfl), by rfl⟩, ⟨rr, trivial⟩⟩⟩⟩ ⟨⟨rfl, ⟨[], by rfl⟩, by rfl⟩, trivial⟩
 | r15 =>
  exact Mach.en_head (bK := ZA 1) (M := ZM a0 a1 a2 a3 N) (cd := 1000000) (cm := 0) (y := (.h1m0 (0) (0) (0) : Zo)) (fu := 4000) (orc := (Zh [] [] [] [] [(0, (Zrc (a0)    1))])) (live := [2]) (tv := [some (vp 2 0), some (vq), some (Value.agg #[vq, vq, vq]), some (vq)]) (bl := [some (.cells [vi a1, vi a2, vi a3] 52)]) (ob := [(dP (Zl9 #[vi a0] (a0)    1), true)]) rfl rfl (show Zq (ZA 1).2 = [] from rfl) (by kernel_rfl) (Za (Zg (Zrd #[vi a0] (a0)   N c0  1 rfl (by decide) (by decide))) Zb) rfl (by decide) (by rfl) ⟨rr, ⟨rr, ⟨⟨Eq.trans (show (Value.agg #[vi ((0 : Nat) : Int), vi ((0 : Nat) : Int), vi ((0 : Nat) : Int)] : Value) = Value.agg #[vq, vq, vq] from (Za8 (Zf (congrArg (Value.int .i64) (by first | rfl | omega)) (Zf (congrArg (Value.int .i64) (by first | rfl | omega)) (Zf (congrArg (Value.int .i64) (by first | rfl | omega)) rfl))))) (by rfl), by rfl⟩, ⟨rr, trivial⟩⟩⟩⟩ ⟨⟨rfl, ⟨[], by rfl⟩, by rfl⟩, trivial⟩
 | r16 =>
  exact Mach.en_head (bK := ZA 1) (M := ZM a0 a1 a2 a3 N) (cd := 1000000) (cm := 0) (y := (.h1m0 (0) (0) (0) : Zo)) (fu := 4000) (orc := (Zh [] [] [] [] [(0, (Zre (a0)    1))])) (live := [2]) (tv := [some (vp 2 0), some (vq), some (Value.agg #[vq, vq, vq]), some (vq)]) (bl := [some (.cells [vi a1, vi a2, vi a3] 52)]) (ob := [(dP (ZlA #[vi a0] (a0)    1), true)]) rfl rfl (show Zq (ZA 1).2 = [] from rfl) (by kernel_rfl) (Za (Zg (Zrf #[vi a0] (a0)   N c0  1 rfl (by decide) (by decide))) Zb) rfl (by decide) (by rfl) ⟨rr, ⟨rr, ⟨⟨Eq.trans (show (Value.agg #[vi ((0 : Nat) : Int), vi ((0 : Nat) : Int), vi ((0 : Nat) : Int)] : Value) = Value.agg #[vq, vq, vq] from (Za8 (Zf (congrArg (Value.int .i64) (by first | rfl | omega)) (Zf (congrArg (Value.int .i64) (by first | rfl | omega)) (Zf (congrArg (Value.int .i64) (by first | rfl | omega)) rfl))))) (by rfl), by rfl⟩, ⟨rr, trivial⟩⟩⟩⟩ ⟨⟨rfl, ⟨[], by rfl⟩, by rfl⟩, trivial⟩
 | r17 =>
  exact Mach.en_head (bK := ZA 1) (M := ZM a0 a1 a2 a3 N) (cd := 1000000) (cm := 0) (y := (.h1m0 (0) (0) (0) : Zo)) (fu := 4000) (orc := (Zh [] [] [] [] [(0, (Zrg (a0)    1))])) (live := [2]) (tv := [some (vp 2 0), some (vq), some (Value.agg #[vq, vq, vq]), some (vq)]) (bl := [some (.cells [vi a1, vi a2, vi a3] 52)]) (ob := [(dP (ZlB #[vi a0] (a0)    1), true)]) rfl rfl (show Zq (ZA 1).2 = [] from rfl) (by kernel_rfl) (Za (Zg (Zrh #[vi a0] (a0)   N c0  1 rfl (by decide) (by decide))) Zb) rfl (by decide) (by rfl) ⟨rr, ⟨rr, ⟨⟨Eq.trans (show (Value.agg #[vi ((0 : Nat) : Int), vi ((0 : Nat) : Int), vi ((0 : Nat) : Int)] : Value) = Value.agg #[vq, vq, vq] from (Za8 (Zf (congrArg (Value.int .i64) (by first | rfl | omega)) (Zf (congrArg (Value.int .i64) (by first | rfl | omega)) (Zf (congrArg (Value.int .i64) (by first | rfl | omega)) rfl))))) (by rfl), by rfl⟩, ⟨rr, trivial⟩⟩⟩⟩ ⟨⟨rfl, ⟨[], by rfl⟩, by rfl⟩, trivial⟩
 | r18 =>
  exact Mach.en_head (bK := ZA 1) (M := ZM a0 a1 a2 a3 N) (cd := 1000000) (cm := 0) (y := (.h1m0 (0) (0) (0) : Zo)) (fu := 4000) (orc := (Zh [] [] [] [] [(0, (Zri (a0)    1))])) (live := [2]) (tv := [some (vp 2 0), some (vq), some (Value.agg #[vq, vq, vq]), some (vq)]) (bl := [some (.cells [vi a1, vi a2, vi a3] 52)]) (ob := [(dP (ZlC #[vi a0] (a0)    1), true)]) rfl rfl (show Zq (ZA 1).2 = [] from rfl) (by kernel_rfl) (Za (Zg (Zrj #[vi a0] (a0)   N c0  1 rfl (by decide) (by decide))) Zb) rfl (by decide) (by rfl) ⟨rr, ⟨rr, ⟨⟨Eq.trans (show (Value.agg #[vi ((0 : Nat) : Int), vi ((0 : Nat) : Int), vi ((0 : Nat) : Int)] : Value) = Value.agg #[vq, vq, vq] from (Za8 (Zf (congrArg (Value.int .i64) (by first | rfl | omega)) (Zf (congrArg (Value.int .i64) (by first | rfl | omega)) (Zf (congrArg (Value.int .i64) (by first | rfl | omega)) rfl))))) (by rfl), by rfl⟩, ⟨rr, trivial⟩⟩⟩⟩ ⟨⟨rfl, ⟨[], by rfl⟩, by rfl⟩, trivial⟩
 | r19 =>
  exact Mach.en_head (bK := ZA 1) (M := ZM a0 a1 a2 a3 N) (cd := 1000000) (cm := 0) (y := (.h1m0 (1) (0) (0) : Zo)) (fu := 4000) (orc := (Zh [] [] [] [] [(0, (Zrk (a0)    1))])) (live := [2]) (tv := [some (vp 2 0), some (vq), some (Value.agg #[vi (1 : Int), vq, vq]), some (vq)]) (bl := [some (.cells [vi a1, vi a2, vi a3] 52)]) (ob := [(dP (ZlD #[vi a0] (a0)    1), true)]) rfl rfl (show Zq (ZA 1).2 = [] from rfl) (by kernel_rfl) (Za (Zg (Zrl #[vi a0] (a0)   N c0  1 rfl (by decide) (by decide))) Zb) rfl (by decide) (by rfl) ⟨rr, ⟨rr, ⟨⟨Eq.trans (show (Value.agg #[vi ((1 : Nat) : Int), vi ((0 : Nat) : Int), vi ((0 : Nat) : Int)] : Value) = Value.agg #[vi (1 : Int), vq, vq] from (Za8 (Zf (congrArg (Value.int .i64) (by first | rfl | omega)) (Zf (congrArg (Value.int .i64) (by first | rfl | omega)) (Zf (congrArg (Value.int .i64) (by first | rfl | omega)) rfl))))) (by rfl), by rfl⟩, ⟨rr, trivial⟩⟩⟩⟩ ⟨⟨rfl, ⟨[], by rfl⟩, by rfl⟩, trivial⟩
 | r20 =>
  exact Mach.en_head (bK := ZA 1) (M := ZM a0 a1 a2 a3 N) (cd := 1000000) (cm := 0) (y := (.h1m0 (0) (0) (0) : Zo)) (fu := 4000) (orc := (Zh [] [] [] [] [(0, (Zrm (a0)    1))])) (live := [2]) (tv := [some (vp 2 0), some (vq), some (Value.agg #[vq, vq, vq]), some (vq)]) (bl := [some (.cells [vi a1, vi a2, vi a3] 52)]) (ob := [(dP (ZlE #[vi a0] (a0)    1), true)]) rfl rfl (show Zq (ZA 1).2 = [] from rfl) (by kernel_rfl) (Za (Zg (Zrn #[vi a0] (a0)   N c0  1 rfl (by decide) (by decide))) Zb) rfl (by decide) (by rfl) ⟨rr, ⟨rr, ⟨⟨Eq.trans (show (Value.agg #[vi ((0 : Nat) : Int), vi ((0 : Nat) : Int), vi ((0 : Nat) : Int)] : Value) = Value.agg #[vq, vq, vq] from (Za8 (Zf (congrArg (Value.int .i64) (by first | rfl | omega)) (Zf (congrArg (Value.int .i64) (by first | rfl | omega)) (Zf (congrArg (Value.int .i64) (by first | rfl | omega)) rfl))))) (by rfl), by rfl⟩, ⟨rr, trivial⟩⟩⟩⟩ ⟨⟨rfl, ⟨[], by rfl⟩, by rfl⟩, trivial⟩

theorem ZoD (a0 a1 a2 a3 : Int) (N : Nat) (r : Za9) (h : Z6 a0 a1 a2 a3 N = some r) : LSpec Try.prog 21 #[Value.agg #[vi a0, vi a1, vi a2, vi a3]] [] (ZmN a0 a1 a2 a3 r) (ZlF a0 a1 a2 a3 r) :=
 Mach.spec ZaR (ZM a0 a1 a2 a3 N) Try.func21 (by kernel_rfl) (by kernel_rfl) (fun x => by cases x <;> exact Zal _ rfl) (fun r => by cases r <;> exact Zal _ rfl) (fun x => by
  cases x with
  | h1m0 _ _ _ => exact fun _ => (show ¬ (1 ∈ Zq (ZA 1).2) from by decide +kernel)
  | h1m1 _ _ _ => exact fun _ => (show ¬ (1 ∈ Zq (ZA 1).2) from by decide +kernel)
  | h1m2 _ _ _ => exact fun _ => (show ¬ (1 ∈ Zq (ZA 1).2) from by decide +kernel)
  | h1m3 _ _ _ => exact fun _ => (show ¬ (1 ∈ Zq (ZA 1).2) from by decide +kernel)
  ) (fun x => (show (ZM a0 a1 a2 a3 N).Ok Try.prog Zj x (Zc1 a0 a1 a2 a3 N x) from by
  cases x with
  | h1m0 v1 v2 v3 => exact ZnL a0 a1 a2 a3 v1 v2 v3 N
  | h1m1 v1 v2 v3 => exact ZnM a0 a1 a2 a3 v1 v2 v3 N
  | h1m2 v1 v2 v3 => exact ZnN a0 a1 a2 a3 v1 v2 v3 N
  | h1m3 v1 v2 v3 => exact ZnO a0 a1 a2 a3 v1 v2 v3 N
  )) (Zqc a0 a1 a2 a3 N) (n := N) h

noncomputable def Zdn (a0 a1 a2 a3 w0 : Int) (n : Nat) : Za4 := .call [] (vi w0) [] 0
def ZcH (A : Array Value) (a0 a1 a2 a3 w0 : Int) (n : Nat) : Prop := ZB Try.prog 21 A [] (vi w0) [] n 0

theorem Zdo (A : Array Value) (a0 a1 a2 a3 w0 : Int) (N : Nat) (h : Z6 a0 a1 a2 a3 N = some (.r0 w0)) (n : Nat) (hA : A = #[Value.agg #[vi a0, vi a1, vi a2, vi a3]]) (hnd : ([] : List Nat).Nodup) (hlt : ∀ k ∈ ([] : List Nat), k < n) : ZcH A a0 a1 a2 a3 w0  n :=
 ZQ hA (LSpec.callL (show LSpec Try.prog 21 #[Value.agg #[vi a0, vi a1, vi a2, vi a3]] [] (vi w0) [] from ZoD a0 a1 a2 a3 N _ h) [] n [] rfl hnd hlt (show 0 ≤ 0 from by decide) (show ∀ j ∈ ([] : List Nat), j < 0 from by decide) (by rfl) trivial (by rfl) trivial trivial rfl rfl rfl rfl rfl)

noncomputable def ZlH (a0 : Int) : Z0 → Value
 | .r0 w0 w1 w2 w3 => Value.agg #[Value.string (Z5 w0), vi w1, vi w2, vi w3]
noncomputable def Zkr (a0 : Int) : Z0 → List (Option AObj)
 | .r0 w0 w1 w2 w3 => []

theorem Zpv (a0 : Int) (N : Nat) : Fx Try.prog Zj Try.f22 [] #[vi a0] (ZlH a0) (Zkr a0) (ZbN a0 N) := by
 unfold ZbN
 refine Zl (fun g0 => ?_) (fun g0 => ?_)
 ·
  exact Zk (r := (.r0 (([] : List Int)) ((0 : Int)) ((0 : Int)) ((0 : Int)) : Z0)) (fu := 4000) (orc := (Zh [(0, true)] [] [] [] [])) (live := []) (u := Value.agg #[Value.string ⟨#[]⟩, vq, vq, vq]) (bl := []) (ob := [((decide (a0 < (0 : Int))), true)]) (by kernel_rfl) (oY Zb) rfl (by decide) (by rfl) ⟨Eq.trans (show (Value.agg #[Value.string (Z5 ([] : List Int)), vq, vq, vq] : Value) = Value.agg #[Value.string ⟨#[]⟩, vq, vq, vq] from (Za8 (Zf rfl (Zf rfl (Zf rfl (Zf rfl rfl)))))) (by rfl), by rfl⟩ trivial
 ·
  refine Zl (fun g1 => ?_) (fun g1 => ?_)
  ·
   exact Zk (r := (.r0 (([] : List Int)) ((0 : Int)) ((0 : Int)) ((0 : Int)) : Z0)) (fu := 4000) (orc := (Zh [(0, false), (1, true)] [] [] [] [])) (live := []) (u := Value.agg #[Value.string ⟨#[]⟩, vq, vq, vq]) (bl := []) (ob := [((decide (a0 ≥ (21 : Int))), true), ((decide (a0 < (0 : Int))), false)]) (by kernel_rfl) (oY <| oN Zb) rfl (by decide) (by rfl) ⟨Eq.trans (show (Value.agg #[Value.string (Z5 ([] : List Int)), vq, vq, vq] : Value) = Value.agg #[Value.string ⟨#[]⟩, vq, vq, vq] from (Za8 (Zf rfl (Zf rfl (Zf rfl (Zf rfl rfl)))))) (by rfl), by rfl⟩ trivial
  ·
   refine Zl (fun g2 => ?_) (fun g2 => ?_)
   ·
    exact Zk (r := (.r0 (([] : List Int)) ((0 : Int)) ((0 : Int)) ((0 : Int)) : Z0)) (fu := 4000) (orc := (Zh [(0, false), (1, false)] [] [(0, 0)] [] [])) (live := []) (u := Value.agg #[Value.string ⟨#[]⟩, vq, vq, vq]) (bl := []) (ob := [(Nat.blt 0 21, true), (a0 == Int.ofNat 0, true), ((decide (a0 ≥ (21 : Int))), false), ((decide (a0 < (0 : Int))), false)]) (by kernel_rfl) (oB <| Za (beq_iff_eq.2 (show _ = ((0 : Nat) : Int) from by omega)) <| oN <| oN Zb) rfl (by decide) (by rfl) ⟨Eq.trans (show (Value.agg #[Value.string (Z5 ([] : List Int)), vq, vq, vq] : Value) = Value.agg #[Value.string ⟨#[]⟩, vq, vq, vq] from (Za8 (Zf rfl (Zf rfl (Zf rfl (Zf rfl rfl)))))) (by rfl), by rfl⟩ trivial
   ·
    refine Zl (fun g3 => ?_) (fun g3 => ?_)
    ·
     exact Zk (r := (.r0 (([(99 : Int), (111 : Int), (110 : Int), (115 : Int), (116 : Int)] : List Int)) ((1 : Int)) ((6 : Int)) ((0 : Int)) : Z0)) (fu := 4000) (orc := (Zh [(0, false), (1, false)] [] [(0, 1)] [] [])) (live := []) (u := Value.agg #[Value.string ⟨#[99, 111, 110, 115, 116]⟩, vi (1 : Int), vi (6 : Int), vq]) (bl := []) (ob := [(Nat.blt 1 21, true), (a0 == Int.ofNat 1, true), ((decide (a0 ≥ (21 : Int))), false), ((decide (a0 < (0 : Int))), false)]) (by kernel_rfl) (oB <| Za (beq_iff_eq.2 (show _ = ((1 : Nat) : Int) from by omega)) <| oN <| oN Zb) rfl (by decide) (by rfl) ⟨Eq.trans (show (Value.agg #[Value.string (Z5 ([(99 : Int), (111 : Int), (110 : Int), (115 : Int), (116 : Int)] : List Int)), vi (1 : Int), vi (6 : Int), vq] : Value) = Value.agg #[Value.string ⟨#[99, 111, 110, 115, 116]⟩, vi (1 : Int), vi (6 : Int), vq] from (Za8 (Zf rfl (Zf rfl (Zf rfl (Zf rfl rfl)))))) (by rfl), by rfl⟩ trivial
    ·
     refine Zl (fun g4 => ?_) (fun g4 => ?_)
     ·
      exact Zk (r := (.r0 (([(110 : Int), (105 : Int), (108 : Int)] : List Int)) ((1 : Int)) ((0 : Int)) ((0 : Int)) : Z0)) (fu := 4000) (orc := (Zh [(0, false), (1, false)] [] [(0, 2)] [] [])) (live := []) (u := Value.agg #[Value.string ⟨#[110, 105, 108]⟩, vi (1 : Int), vq, vq]) (bl := []) (ob := [(Nat.blt 2 21, true), (a0 == Int.ofNat 2, true), ((decide (a0 ≥ (21 : Int))), false), ((decide (a0 < (0 : Int))), false)]) (by kernel_rfl) (oB <| Za (beq_iff_eq.2 (show _ = ((2 : Nat) : Int) from by omega)) <| oN <| oN Zb) rfl (by decide) (by rfl) ⟨Eq.trans (show (Value.agg #[Value.string (Z5 ([(110 : Int), (105 : Int), (108 : Int)] : List Int)), vi (1 : Int), vq, vq] : Value) = Value.agg #[Value.string ⟨#[110, 105, 108]⟩, vi (1 : Int), vq, vq] from (Za8 (Zf rfl (Zf rfl (Zf rfl (Zf rfl rfl)))))) (by rfl), by rfl⟩ trivial
     ·
      refine Zl (fun g5 => ?_) (fun g5 => ?_)
      ·
       exact Zk (r := (.r0 (([(109 : Int), (111 : Int), (118 : Int), (101 : Int)] : List Int)) ((1 : Int)) ((1 : Int)) ((0 : Int)) : Z0)) (fu := 4000) (orc := (Zh [(0, false), (1, false)] [] [(0, 3)] [] [])) (live := []) (u := Value.agg #[Value.string ⟨#[109, 111, 118, 101]⟩, vi (1 : Int), vi (1 : Int), vq]) (bl := []) (ob := [(Nat.blt 3 21, true), (a0 == Int.ofNat 3, true), ((decide (a0 ≥ (21 : Int))), false), ((decide (a0 < (0 : Int))), false)]) (by kernel_rfl) (oB <| Za (beq_iff_eq.2 (show _ = ((3 : Nat) : Int) from by omega)) <| oN <| oN Zb) rfl (by decide) (by rfl) ⟨Eq.trans (show (Value.agg #[Value.string (Z5 ([(109 : Int), (111 : Int), (118 : Int), (101 : Int)] : List Int)), vi (1 : Int), vi (1 : Int), vq] : Value) = Value.agg #[Value.string ⟨#[109, 111, 118, 101]⟩, vi (1 : Int), vi (1 : Int), vq] from (Za8 (Zf rfl (Zf rfl (Zf rfl (Zf rfl rfl)))))) (by rfl), by rfl⟩ trivial
      ·
       refine Zl (fun g6 => ?_) (fun g6 => ?_)
       ·
        exact Zk (r := (.r0 (([(97 : Int), (100 : Int), (100 : Int)] : List Int)) ((1 : Int)) ((1 : Int)) ((1 : Int)) : Z0)) (fu := 4000) (orc := (Zh [(0, false), (1, false)] [] [(0, 4)] [] [])) (live := []) (u := Value.agg #[Value.string ⟨#[97, 100, 100]⟩, vi (1 : Int), vi (1 : Int), vi (1 : Int)]) (bl := []) (ob := [(Nat.blt 4 21, true), (a0 == Int.ofNat 4, true), ((decide (a0 ≥ (21 : Int))), false), ((decide (a0 < (0 : Int))), false)]) (by kernel_rfl) (oB <| Za (beq_iff_eq.2 (show _ = ((4 : Nat) : Int) from by omega)) <| oN <| oN Zb) rfl (by decide) (by rfl) ⟨Eq.trans (show (Value.agg #[Value.string (Z5 ([(97 : Int), (100 : Int), (100 : Int)] : List Int)), vi (1 : Int), vi (1 : Int), vi (1 : Int)] : Value) = Value.agg #[Value.string ⟨#[97, 100, 100]⟩, vi (1 : Int), vi (1 : Int), vi (1 : Int)] from (Za8 (Zf rfl (Zf rfl (Zf rfl (Zf rfl rfl)))))) (by rfl), by rfl⟩ trivial
       ·
        refine Zl (fun g7 => ?_) (fun g7 => ?_)
        ·
         exact Zk (r := (.r0 (([(115 : Int), (117 : Int), (98 : Int)] : List Int)) ((1 : Int)) ((1 : Int)) ((1 : Int)) : Z0)) (fu := 4000) (orc := (Zh [(0, false), (1, false)] [] [(0, 5)] [] [])) (live := []) (u := Value.agg #[Value.string ⟨#[115, 117, 98]⟩, vi (1 : Int), vi (1 : Int), vi (1 : Int)]) (bl := []) (ob := [(Nat.blt 5 21, true), (a0 == Int.ofNat 5, true), ((decide (a0 ≥ (21 : Int))), false), ((decide (a0 < (0 : Int))), false)]) (by kernel_rfl) (oB <| Za (beq_iff_eq.2 (show _ = ((5 : Nat) : Int) from by omega)) <| oN <| oN Zb) rfl (by decide) (by rfl) ⟨Eq.trans (show (Value.agg #[Value.string (Z5 ([(115 : Int), (117 : Int), (98 : Int)] : List Int)), vi (1 : Int), vi (1 : Int), vi (1 : Int)] : Value) = Value.agg #[Value.string ⟨#[115, 117, 98]⟩, vi (1 : Int), vi (1 : Int), vi (1 : Int)] from (Za8 (Zf rfl (Zf rfl (Zf rfl (Zf rfl rfl)))))) (by rfl), by rfl⟩ trivial
        ·
         refine Zl (fun g8 => ?_) (fun g8 => ?_)
         ·
          exact Zk (r := (.r0 (([(108 : Int), (101 : Int), (115 : Int), (115 : Int)] : List Int)) ((1 : Int)) ((1 : Int)) ((1 : Int)) : Z0)) (fu := 4000) (orc := (Zh [(0, false), (1, false)] [] [(0, 6)] [] [])) (live := []) (u := Value.agg #[Value.string ⟨#[108, 101, 115, 115]⟩, vi (1 : Int), vi (1 : Int), vi (1 : Int)]) (bl := []) (ob := [(Nat.blt 6 21, true), (a0 == Int.ofNat 6, true), ((decide (a0 ≥ (21 : Int))), false), ((decide (a0 < (0 : Int))), false)]) (by kernel_rfl) (oB <| Za (beq_iff_eq.2 (show _ = ((6 : Nat) : Int) from by omega)) <| oN <| oN Zb) rfl (by decide) (by rfl) ⟨Eq.trans (show (Value.agg #[Value.string (Z5 ([(108 : Int), (101 : Int), (115 : Int), (115 : Int)] : List Int)), vi (1 : Int), vi (1 : Int), vi (1 : Int)] : Value) = Value.agg #[Value.string ⟨#[108, 101, 115, 115]⟩, vi (1 : Int), vi (1 : Int), vi (1 : Int)] from (Za8 (Zf rfl (Zf rfl (Zf rfl (Zf rfl rfl)))))) (by rfl), by rfl⟩ trivial
         ·
          refine Zl (fun g9 => ?_) (fun g9 => ?_)
          ·
           exact Zk (r := (.r0 (([(101 : Int), (113 : Int)] : List Int)) ((1 : Int)) ((1 : Int)) ((1 : Int)) : Z0)) (fu := 4000) (orc := (Zh [(0, false), (1, false)] [] [(0, 7)] [] [])) (live := []) (u := Value.agg #[Value.string ⟨#[101, 113]⟩, vi (1 : Int), vi (1 : Int), vi (1 : Int)]) (bl := []) (ob := [(Nat.blt 7 21, true), (a0 == Int.ofNat 7, true), ((decide (a0 ≥ (21 : Int))), false), ((decide (a0 < (0 : Int))), false)]) (by kernel_rfl) (oB <| Za (beq_iff_eq.2 (show _ = ((7 : Nat) : Int) from by omega)) <| oN <| oN Zb) rfl (by decide) (by rfl) ⟨Eq.trans (show (Value.agg #[Value.string (Z5 ([(101 : Int), (113 : Int)] : List Int)), vi (1 : Int), vi (1 : Int), vi (1 : Int)] : Value) = Value.agg #[Value.string ⟨#[101, 113]⟩, vi (1 : Int), vi (1 : Int), vi (1 : Int)] from (Za8 (Zf rfl (Zf rfl (Zf rfl (Zf rfl rfl)))))) (by rfl), by rfl⟩ trivial
          ·
           refine Zl (fun g10 => ?_) (fun g10 => ?_)
           ·
            exact Zk (r := (.r0 (([(106 : Int), (117 : Int), (109 : Int), (112 : Int)] : List Int)) ((4 : Int)) ((0 : Int)) ((0 : Int)) : Z0)) (fu := 4000) (orc := (Zh [(0, false), (1, false)] [] [(0, 8)] [] [])) (live := []) (u := Value.agg #[Value.string ⟨#[106, 117, 109, 112]⟩, vi (4 : Int), vq, vq]) (bl := []) (ob := [(Nat.blt 8 21, true), (a0 == Int.ofNat 8, true), ((decide (a0 ≥ (21 : Int))), false), ((decide (a0 < (0 : Int))), false)]) (by kernel_rfl) (oB <| Za (beq_iff_eq.2 (show _ = ((8 : Nat) : Int) from by omega)) <| oN <| oN Zb) rfl (by decide) (by rfl) ⟨Eq.trans (show (Value.agg #[Value.string (Z5 ([(106 : Int), (117 : Int), (109 : Int), (112 : Int)] : List Int)), vi (4 : Int), vq, vq] : Value) = Value.agg #[Value.string ⟨#[106, 117, 109, 112]⟩, vi (4 : Int), vq, vq] from (Za8 (Zf rfl (Zf rfl (Zf rfl (Zf rfl rfl)))))) (by rfl), by rfl⟩ trivial
           ·
            refine Zl (fun g11 => ?_) (fun g11 => ?_)
            ·
             exact Zk (r := (.r0 (([(106 : Int), (117 : Int), (109 : Int), (112 : Int), (122 : Int)] : List Int)) ((1 : Int)) ((4 : Int)) ((0 : Int)) : Z0)) (fu := 4000) (orc := (Zh [(0, false), (1, false)] [] [(0, 9)] [] [])) (live := []) (u := Value.agg #[Value.string ⟨#[106, 117, 109, 112, 122]⟩, vi (1 : Int), vi (4 : Int), vq]) (bl := []) (ob := [(Nat.blt 9 21, true), (a0 == Int.ofNat 9, true), ((decide (a0 ≥ (21 : Int))), false), ((decide (a0 < (0 : Int))), false)]) (by kernel_rfl) (oB <| Za (beq_iff_eq.2 (show _ = ((9 : Nat) : Int) from by omega)) <| oN <| oN Zb) rfl (by decide) (by rfl) ⟨Eq.trans (show (Value.agg #[Value.string (Z5 ([(106 : Int), (117 : Int), (109 : Int), (112 : Int), (122 : Int)] : List Int)), vi (1 : Int), vi (4 : Int), vq] : Value) = Value.agg #[Value.string ⟨#[106, 117, 109, 112, 122]⟩, vi (1 : Int), vi (4 : Int), vq] from (Za8 (Zf rfl (Zf rfl (Zf rfl (Zf rfl rfl)))))) (by rfl), by rfl⟩ trivial
            ·
             refine Zl (fun g12 => ?_) (fun g12 => ?_)
             ·
              exact Zk (r := (.r0 (([(114 : Int), (111 : Int), (111 : Int), (116 : Int)] : List Int)) ((1 : Int)) ((0 : Int)) ((0 : Int)) : Z0)) (fu := 4000) (orc := (Zh [(0, false), (1, false)] [] [(0, 10)] [] [])) (live := []) (u := Value.agg #[Value.string ⟨#[114, 111, 111, 116]⟩, vi (1 : Int), vq, vq]) (bl := []) (ob := [(Nat.blt 10 21, true), (a0 == Int.ofNat 10, true), ((decide (a0 ≥ (21 : Int))), false), ((decide (a0 < (0 : Int))), false)]) (by kernel_rfl) (oB <| Za (beq_iff_eq.2 (show _ = ((10 : Nat) : Int) from by omega)) <| oN <| oN Zb) rfl (by decide) (by rfl) ⟨Eq.trans (show (Value.agg #[Value.string (Z5 ([(114 : Int), (111 : Int), (111 : Int), (116 : Int)] : List Int)), vi (1 : Int), vq, vq] : Value) = Value.agg #[Value.string ⟨#[114, 111, 111, 116]⟩, vi (1 : Int), vq, vq] from (Za8 (Zf rfl (Zf rfl (Zf rfl (Zf rfl rfl)))))) (by rfl), by rfl⟩ trivial
             ·
              refine Zl (fun g13 => ?_) (fun g13 => ?_)
              ·
               exact Zk (r := (.r0 (([(110 : Int), (101 : Int), (119 : Int)] : List Int)) ((1 : Int)) ((3 : Int)) ((5 : Int)) : Z0)) (fu := 4000) (orc := (Zh [(0, false), (1, false)] [] [(0, 11)] [] [])) (live := []) (u := Value.agg #[Value.string ⟨#[110, 101, 119]⟩, vi (1 : Int), vi (3 : Int), vi (5 : Int)]) (bl := []) (ob := [(Nat.blt 11 21, true), (a0 == Int.ofNat 11, true), ((decide (a0 ≥ (21 : Int))), false), ((decide (a0 < (0 : Int))), false)]) (by kernel_rfl) (oB <| Za (beq_iff_eq.2 (show _ = ((11 : Nat) : Int) from by omega)) <| oN <| oN Zb) rfl (by decide) (by rfl) ⟨Eq.trans (show (Value.agg #[Value.string (Z5 ([(110 : Int), (101 : Int), (119 : Int)] : List Int)), vi (1 : Int), vi (3 : Int), vi (5 : Int)] : Value) = Value.agg #[Value.string ⟨#[110, 101, 119]⟩, vi (1 : Int), vi (3 : Int), vi (5 : Int)] from (Za8 (Zf rfl (Zf rfl (Zf rfl (Zf rfl rfl)))))) (by rfl), by rfl⟩ trivial
              ·
               refine Zl (fun g14 => ?_) (fun g14 => ?_)
               ·
                exact Zk (r := (.r0 (([(102 : Int), (114 : Int), (101 : Int), (101 : Int)] : List Int)) ((1 : Int)) ((0 : Int)) ((0 : Int)) : Z0)) (fu := 4000) (orc := (Zh [(0, false), (1, false)] [] [(0, 12)] [] [])) (live := []) (u := Value.agg #[Value.string ⟨#[102, 114, 101, 101]⟩, vi (1 : Int), vq, vq]) (bl := []) (ob := [(Nat.blt 12 21, true), (a0 == Int.ofNat 12, true), ((decide (a0 ≥ (21 : Int))), false), ((decide (a0 < (0 : Int))), false)]) (by kernel_rfl) (oB <| Za (beq_iff_eq.2 (show _ = ((12 : Nat) : Int) from by omega)) <| oN <| oN Zb) rfl (by decide) (by rfl) ⟨Eq.trans (show (Value.agg #[Value.string (Z5 ([(102 : Int), (114 : Int), (101 : Int), (101 : Int)] : List Int)), vi (1 : Int), vq, vq] : Value) = Value.agg #[Value.string ⟨#[102, 114, 101, 101]⟩, vi (1 : Int), vq, vq] from (Za8 (Zf rfl (Zf rfl (Zf rfl (Zf rfl rfl)))))) (by rfl), by rfl⟩ trivial
               ·
                refine Zl (fun g15 => ?_) (fun g15 => ?_)
                ·
                 exact Zk (r := (.r0 (([(103 : Int), (101 : Int), (116 : Int)] : List Int)) ((1 : Int)) ((1 : Int)) ((2 : Int)) : Z0)) (fu := 4000) (orc := (Zh [(0, false), (1, false)] [] [(0, 13)] [] [])) (live := []) (u := Value.agg #[Value.string ⟨#[103, 101, 116]⟩, vi (1 : Int), vi (1 : Int), vi (2 : Int)]) (bl := []) (ob := [(Nat.blt 13 21, true), (a0 == Int.ofNat 13, true), ((decide (a0 ≥ (21 : Int))), false), ((decide (a0 < (0 : Int))), false)]) (by kernel_rfl) (oB <| Za (beq_iff_eq.2 (show _ = ((13 : Nat) : Int) from by omega)) <| oN <| oN Zb) rfl (by decide) (by rfl) ⟨Eq.trans (show (Value.agg #[Value.string (Z5 ([(103 : Int), (101 : Int), (116 : Int)] : List Int)), vi (1 : Int), vi (1 : Int), vi (2 : Int)] : Value) = Value.agg #[Value.string ⟨#[103, 101, 116]⟩, vi (1 : Int), vi (1 : Int), vi (2 : Int)] from (Za8 (Zf rfl (Zf rfl (Zf rfl (Zf rfl rfl)))))) (by rfl), by rfl⟩ trivial
                ·
                 refine Zl (fun g16 => ?_) (fun g16 => ?_)
                 ·
                  exact Zk (r := (.r0 (([(115 : Int), (101 : Int), (116 : Int)] : List Int)) ((1 : Int)) ((2 : Int)) ((1 : Int)) : Z0)) (fu := 4000) (orc := (Zh [(0, false), (1, false)] [] [(0, 14)] [] [])) (live := []) (u := Value.agg #[Value.string ⟨#[115, 101, 116]⟩, vi (1 : Int), vi (2 : Int), vi (1 : Int)]) (bl := []) (ob := [(Nat.blt 14 21, true), (a0 == Int.ofNat 14, true), ((decide (a0 ≥ (21 : Int))), false), ((decide (a0 < (0 : Int))), false)]) (by kernel_rfl) (oB <| Za (beq_iff_eq.2 (show _ = ((14 : Nat) : Int) from by omega)) <| oN <| oN Zb) rfl (by decide) (by rfl) ⟨Eq.trans (show (Value.agg #[Value.string (Z5 ([(115 : Int), (101 : Int), (116 : Int)] : List Int)), vi (1 : Int), vi (2 : Int), vi (1 : Int)] : Value) = Value.agg #[Value.string ⟨#[115, 101, 116]⟩, vi (1 : Int), vi (2 : Int), vi (1 : Int)] from (Za8 (Zf rfl (Zf rfl (Zf rfl (Zf rfl rfl)))))) (by rfl), by rfl⟩ trivial
                 ·
                  refine Zl (fun g17 => ?_) (fun g17 => ?_)
                  ·
                   exact Zk (r := (.r0 (([(98 : Int), (101 : Int), (103 : Int), (105 : Int), (110 : Int)] : List Int)) ((0 : Int)) ((0 : Int)) ((0 : Int)) : Z0)) (fu := 4000) (orc := (Zh [(0, false), (1, false)] [] [(0, 15)] [] [])) (live := []) (u := Value.agg #[Value.string ⟨#[98, 101, 103, 105, 110]⟩, vq, vq, vq]) (bl := []) (ob := [(Nat.blt 15 21, true), (a0 == Int.ofNat 15, true), ((decide (a0 ≥ (21 : Int))), false), ((decide (a0 < (0 : Int))), false)]) (by kernel_rfl) (oB <| Za (beq_iff_eq.2 (show _ = ((15 : Nat) : Int) from by omega)) <| oN <| oN Zb) rfl (by decide) (by rfl) ⟨Eq.trans (show (Value.agg #[Value.string (Z5 ([(98 : Int), (101 : Int), (103 : Int), (105 : Int), (110 : Int)] : List Int)), vq, vq, vq] : Value) = Value.agg #[Value.string ⟨#[98, 101, 103, 105, 110]⟩, vq, vq, vq] from (Za8 (Zf rfl (Zf rfl (Zf rfl (Zf rfl rfl)))))) (by rfl), by rfl⟩ trivial
                  ·
                   refine Zl (fun g18 => ?_) (fun g18 => ?_)
                   ·
                    exact Zk (r := (.r0 (([(101 : Int), (108 : Int), (115 : Int), (101 : Int)] : List Int)) ((0 : Int)) ((0 : Int)) ((0 : Int)) : Z0)) (fu := 4000) (orc := (Zh [(0, false), (1, false)] [] [(0, 16)] [] [])) (live := []) (u := Value.agg #[Value.string ⟨#[101, 108, 115, 101]⟩, vq, vq, vq]) (bl := []) (ob := [(Nat.blt 16 21, true), (a0 == Int.ofNat 16, true), ((decide (a0 ≥ (21 : Int))), false), ((decide (a0 < (0 : Int))), false)]) (by kernel_rfl) (oB <| Za (beq_iff_eq.2 (show _ = ((16 : Nat) : Int) from by omega)) <| oN <| oN Zb) rfl (by decide) (by rfl) ⟨Eq.trans (show (Value.agg #[Value.string (Z5 ([(101 : Int), (108 : Int), (115 : Int), (101 : Int)] : List Int)), vq, vq, vq] : Value) = Value.agg #[Value.string ⟨#[101, 108, 115, 101]⟩, vq, vq, vq] from (Za8 (Zf rfl (Zf rfl (Zf rfl (Zf rfl rfl)))))) (by rfl), by rfl⟩ trivial
                   ·
                    refine Zl (fun g19 => ?_) (fun g19 => ?_)
                    ·
                     exact Zk (r := (.r0 (([(101 : Int), (110 : Int), (100 : Int)] : List Int)) ((0 : Int)) ((0 : Int)) ((0 : Int)) : Z0)) (fu := 4000) (orc := (Zh [(0, false), (1, false)] [] [(0, 17)] [] [])) (live := []) (u := Value.agg #[Value.string ⟨#[101, 110, 100]⟩, vq, vq, vq]) (bl := []) (ob := [(Nat.blt 17 21, true), (a0 == Int.ofNat 17, true), ((decide (a0 ≥ (21 : Int))), false), ((decide (a0 < (0 : Int))), false)]) (by kernel_rfl) (oB <| Za (beq_iff_eq.2 (show _ = ((17 : Nat) : Int) from by omega)) <| oN <| oN Zb) rfl (by decide) (by rfl) ⟨Eq.trans (show (Value.agg #[Value.string (Z5 ([(101 : Int), (110 : Int), (100 : Int)] : List Int)), vq, vq, vq] : Value) = Value.agg #[Value.string ⟨#[101, 110, 100]⟩, vq, vq, vq] from (Za8 (Zf rfl (Zf rfl (Zf rfl (Zf rfl rfl)))))) (by rfl), by rfl⟩ trivial
                    ·
                     refine Zl (fun g20 => ?_) (fun g20 => ?_)
                     ·
                      exact Zk (r := (.r0 (([(114 : Int), (101 : Int), (116 : Int), (114 : Int), (121 : Int)] : List Int)) ((0 : Int)) ((0 : Int)) ((0 : Int)) : Z0)) (fu := 4000) (orc := (Zh [(0, false), (1, false)] [] [(0, 18)] [] [])) (live := []) (u := Value.agg #[Value.string ⟨#[114, 101, 116, 114, 121]⟩, vq, vq, vq]) (bl := []) (ob := [(Nat.blt 18 21, true), (a0 == Int.ofNat 18, true), ((decide (a0 ≥ (21 : Int))), false), ((decide (a0 < (0 : Int))), false)]) (by kernel_rfl) (oB <| Za (beq_iff_eq.2 (show _ = ((18 : Nat) : Int) from by omega)) <| oN <| oN Zb) rfl (by decide) (by rfl) ⟨Eq.trans (show (Value.agg #[Value.string (Z5 ([(114 : Int), (101 : Int), (116 : Int), (114 : Int), (121 : Int)] : List Int)), vq, vq, vq] : Value) = Value.agg #[Value.string ⟨#[114, 101, 116, 114, 121]⟩, vq, vq, vq] from (Za8 (Zf rfl (Zf rfl (Zf rfl (Zf rfl rfl)))))) (by rfl), by rfl⟩ trivial
                     ·
                      refine Zl (fun g21 => ?_) (fun g21 => ?_)
                      ·
                       exact Zk (r := (.r0 (([(101 : Int), (109 : Int), (105 : Int), (116 : Int)] : List Int)) ((1 : Int)) ((0 : Int)) ((0 : Int)) : Z0)) (fu := 4000) (orc := (Zh [(0, false), (1, false)] [] [(0, 19)] [] [])) (live := []) (u := Value.agg #[Value.string ⟨#[101, 109, 105, 116]⟩, vi (1 : Int), vq, vq]) (bl := []) (ob := [(Nat.blt 19 21, true), (a0 == Int.ofNat 19, true), ((decide (a0 ≥ (21 : Int))), false), ((decide (a0 < (0 : Int))), false)]) (by kernel_rfl) (oB <| Za (beq_iff_eq.2 (show _ = ((19 : Nat) : Int) from by omega)) <| oN <| oN Zb) rfl (by decide) (by rfl) ⟨Eq.trans (show (Value.agg #[Value.string (Z5 ([(101 : Int), (109 : Int), (105 : Int), (116 : Int)] : List Int)), vi (1 : Int), vq, vq] : Value) = Value.agg #[Value.string ⟨#[101, 109, 105, 116]⟩, vi (1 : Int), vq, vq] from (Za8 (Zf rfl (Zf rfl (Zf rfl (Zf rfl rfl)))))) (by rfl), by rfl⟩ trivial
                      ·
                       exact Zk (r := (.r0 (([(104 : Int), (97 : Int), (108 : Int), (116 : Int)] : List Int)) ((0 : Int)) ((0 : Int)) ((0 : Int)) : Z0)) (fu := 4000) (orc := (Zh [(0, false), (1, false)] [] [(0, 20)] [] [])) (live := []) (u := Value.agg #[Value.string ⟨#[104, 97, 108, 116]⟩, vq, vq, vq]) (bl := []) (ob := [(Nat.blt 20 21, true), (a0 == Int.ofNat 20, true), ((decide (a0 ≥ (21 : Int))), false), ((decide (a0 < (0 : Int))), false)]) (by kernel_rfl) (oB <| Za (beq_iff_eq.2 (show _ = ((20 : Nat) : Int) from by omega)) <| oN <| oN Zb) rfl (by decide) (by rfl) ⟨Eq.trans (show (Value.agg #[Value.string (Z5 ([(104 : Int), (97 : Int), (108 : Int), (116 : Int)] : List Int)), vq, vq, vq] : Value) = Value.agg #[Value.string ⟨#[104, 97, 108, 116]⟩, vq, vq, vq] from (Za8 (Zf rfl (Zf rfl (Zf rfl (Zf rfl rfl)))))) (by rfl), by rfl⟩ trivial

theorem ZnP (a0 : Int) (N : Nat) (r : Z0) (h : ZbN a0 N = some r) : LSpec Try.prog 22 #[vi a0] [] (ZlH a0 r) (Zkr a0 r) :=
 ZdD ZaR Try.func22 (by kernel_rfl) (by kernel_rfl) (fun r => by cases r <;> exact Zal _ rfl) (Zpv a0 N) h

noncomputable def ZeV (a0 : Int) (w0 : List Int) (w1 w2 w3 : Int) (n : Nat) : Za4 := .call [] (Value.agg #[Value.string (Z5 w0), vi w1, vi w2, vi w3]) [] 0
def Zea (A : Array Value) (a0 : Int) (w0 : List Int) (w1 w2 w3 : Int) (n : Nat) : Prop := ZB Try.prog 22 A [] (Value.agg #[Value.string (Z5 w0), vi w1, vi w2, vi w3]) [] n 0

theorem ZeW (A : Array Value) (a0 : Int) (w0 : List Int) (w1 w2 w3 : Int) (N : Nat) (h : ZbN a0 N = some (.r0 w0 w1 w2 w3)) (n : Nat) (hA : A = #[vi a0]) (hnd : ([] : List Nat).Nodup) (hlt : ∀ k ∈ ([] : List Nat), k < n) : Zea A a0 w0 w1 w2 w3  n :=
 ZQ hA (LSpec.callL (show LSpec Try.prog 22 #[vi a0] [] (Value.agg #[Value.string (Z5 w0), vi w1, vi w2, vi w3]) [] from ZnP a0 N _ h) [] n [] rfl hnd hlt (show 0 ≤ 0 from by decide) (show ∀ j ∈ ([] : List Nat), j < 0 from by decide) (by rfl) trivial (by rfl) trivial trivial rfl rfl rfl rfl rfl)

noncomputable def ZhH (a0 : Int) : Zao → Value
 | .r0 w0 => vi w0
noncomputable def ZgV (a0 : Int) : Zao → List (Option AObj)
 | .r0 w0 => []

theorem Zlj (a0 : Int) (N : Nat) : Fx Try.prog Zj Try.f23 [] #[vi a0] (ZhH a0) (ZgV a0) (Zv a0 N) := by
 unfold Zv
 refine Zl (fun g0 => ?_) (fun g0 => ?_)
 ·
  exact Zk (r := (.r0 ((1 : Int)) : Zao)) (fu := 4000) (orc := (Zh [(0, true)] [] [] [] [])) (live := []) (u := vi (1 : Int)) (bl := []) (ob := [((a0 == (1 : Int)), true)]) (by kernel_rfl) (oT Zb) rfl (by decide) (by rfl) rr trivial
 ·
  refine Zl (fun g1 => ?_) (fun g1 => ?_)
  ·
   exact Zk (r := (.r0 ((1 : Int)) : Zao)) (fu := 4000) (orc := (Zh [(0, false), (1, true)] [] [] [] [])) (live := []) (u := vi (1 : Int)) (bl := []) (ob := [((a0 == (2 : Int)), true), ((a0 == (1 : Int)), false)]) (by kernel_rfl) (oT <| oF Zb) rfl (by decide) (by rfl) rr trivial
  ·
   refine Zl (fun g2 => ?_) (fun g2 => ?_)
   ·
    exact Zk (r := (.r0 ((1 : Int)) : Zao)) (fu := 4000) (orc := (Zh [(0, false), (1, false), (2, true)] [] [] [] [])) (live := []) (u := vi (1 : Int)) (bl := []) (ob := [((a0 == (3 : Int)), true), ((a0 == (2 : Int)), false), ((a0 == (1 : Int)), false)]) (by kernel_rfl) (oT <| oF <| oF Zb) rfl (by decide) (by rfl) rr trivial
   ·
    refine Zl (fun g3 => ?_) (fun g3 => ?_)
    ·
     exact Zk (r := (.r0 ((2 : Int)) : Zao)) (fu := 4000) (orc := (Zh [(0, false), (1, false), (2, false), (3, true)] [] [] [] [])) (live := []) (u := vi (2 : Int)) (bl := []) (ob := [((a0 == (4 : Int)), true), ((a0 == (3 : Int)), false), ((a0 == (2 : Int)), false), ((a0 == (1 : Int)), false)]) (by kernel_rfl) (oT <| oF <| oF <| oF Zb) rfl (by decide) (by rfl) rr trivial
    ·
     refine Zl (fun g4 => ?_) (fun g4 => ?_)
     ·
      exact Zk (r := (.r0 ((3 : Int)) : Zao)) (fu := 4000) (orc := (Zh [(0, false), (1, false), (2, false), (3, false), (4, true)] [] [] [] [])) (live := []) (u := vi (3 : Int)) (bl := []) (ob := [((a0 == (5 : Int)), true), ((a0 == (4 : Int)), false), ((a0 == (3 : Int)), false), ((a0 == (2 : Int)), false), ((a0 == (1 : Int)), false)]) (by kernel_rfl) (oT <| oF <| oF <| oF <| oF Zb) rfl (by decide) (by rfl) rr trivial
     ·
      refine Zl (fun g5 => ?_) (fun g5 => ?_)
      ·
       exact Zk (r := (.r0 ((8 : Int)) : Zao)) (fu := 4000) (orc := (Zh [(0, false), (1, false), (2, false), (3, false), (4, false), (5, true)] [] [] [] [])) (live := []) (u := vi (8 : Int)) (bl := []) (ob := [((a0 == (6 : Int)), true), ((a0 == (5 : Int)), false), ((a0 == (4 : Int)), false), ((a0 == (3 : Int)), false), ((a0 == (2 : Int)), false), ((a0 == (1 : Int)), false)]) (by kernel_rfl) (oT <| oF <| oF <| oF <| oF <| oF Zb) rfl (by decide) (by rfl) rr trivial
      ·
       exact Zk (r := (.r0 ((0 : Int)) : Zao)) (fu := 4000) (orc := (Zh [(0, false), (1, false), (2, false), (3, false), (4, false), (5, false)] [] [] [] [])) (live := []) (u := vq) (bl := []) (ob := [((a0 == (6 : Int)), false), ((a0 == (5 : Int)), false), ((a0 == (4 : Int)), false), ((a0 == (3 : Int)), false), ((a0 == (2 : Int)), false), ((a0 == (1 : Int)), false)]) (by kernel_rfl) (oF <| oF <| oF <| oF <| oF <| oF Zb) rfl (by decide) (by rfl) rr trivial

theorem ZjU (a0 : Int) (N : Nat) (r : Zao) (h : Zv a0 N = some r) : LSpec Try.prog 23 #[vi a0] [] (ZhH a0 r) (ZgV a0 r) :=
 ZdD ZaR Try.func23 (by kernel_rfl) (by kernel_rfl) (fun r => by cases r <;> exact Zal _ rfl) (Zlj a0 N) h

noncomputable def ZG (a0 w0 : Int) (n : Nat) : Za4 := .call [] (vi w0) [] 0
def ZD (A : Array Value) (a0 w0 : Int) (n : Nat) : Prop := ZB Try.prog 23 A [] (vi w0) [] n 0

theorem ZH (A : Array Value) (a0 w0 : Int) (N : Nat) (h : Zv a0 N = some (.r0 w0)) (n : Nat) (hA : A = #[vi a0]) (hnd : ([] : List Nat).Nodup) (hlt : ∀ k ∈ ([] : List Nat), k < n) : ZD A a0 w0  n :=
 ZQ hA (LSpec.callL (show LSpec Try.prog 23 #[vi a0] [] (vi w0) [] from ZjU a0 N _ h) [] n [] rfl hnd hlt (show 0 ≤ 0 from by decide) (show ∀ j ∈ ([] : List Nat), j < 0 from by decide) (by rfl) trivial (by rfl) trivial trivial rfl rfl rfl rfl rfl)

noncomputable def ZlI (a0 a1 a2 a3 : Int) : instr_EncodeR → Value
 | .r0 w0 => Value.tuple #[vn, vi w0]
 | .r1 w0 => Value.tuple #[vs 0 0 w0.length w0.length, vq]
noncomputable def Zks (a0 a1 a2 a3 : Int) : instr_EncodeR → List (Option AObj)
 | .r0 w0 => []
 | .r1 w0 => [some (.cells (Zc (Ze .u8) w0) 5)]

def Zqd : instr_EncodeX → Nat
 | .h1m0 v1 v2 v3 => 1
 | .h1m1 v0 v1 v2 v3 => 1
 | .h1m2 v0 v1 v2 v3 => 1
 | .h1m3 v0 v1 v2 v3 => 1
 | .h2m0 v0 v1 v2 v3 v4 => 2
 | .h2m1 v0 v1 v2 v3 v4 => 2
 | .h2m2 v0 v1 v2 v3 v4 => 2
noncomputable def Zrp (a0 a1 a2 a3 : Int) : instr_EncodeX → List (Nat × Value)
 | .h1m0 v1 v2 v3 => [(5, vs 0 0 1 1), (6, vp 1 0), (29, Value.agg #[vi v1, vi v2, vi v3]), (30, vq)]
 | .h1m1 v0 v1 v2 v3 => [(5, vs 0 0 v0.length v0.length), (6, vp 1 0), (29, Value.agg #[vi v1, vi v2, vi v3]), (30, vi (1 : Int))]
 | .h1m2 v0 v1 v2 v3 => [(5, vs 0 0 v0.length v0.length), (6, vp 1 0), (29, Value.agg #[vi v1, vi v2, vi v3]), (30, vi (2 : Int))]
 | .h1m3 v0 v1 v2 v3 => [(5, vs 0 0 v0.length v0.length), (6, vp 1 0), (29, Value.agg #[vi v1, vi v2, vi v3]), (30, vi (3 : Int))]
 | .h2m0 v0 v1 v2 v3 v4 => [(5, vs 0 0 v0.length v0.length), (6, vp 1 0), (7, vq), (9, vi v1), (29, Value.agg #[vi v2, vi v3, vi v4]), (30, vq)]
 | .h2m1 v0 v1 v2 v3 v4 => [(5, vs 0 0 v0.length v0.length), (6, vp 1 0), (7, vi (1 : Int)), (9, vi v1), (29, Value.agg #[vi v2, vi v3, vi v4]), (30, vi (1 : Int))]
 | .h2m2 v0 v1 v2 v3 v4 => [(5, vs 0 0 v0.length v0.length), (6, vp 1 0), (7, vi (2 : Int)), (9, vi v1), (29, Value.agg #[vi v2, vi v3, vi v4]), (30, vi (2 : Int))]
noncomputable def Zrq (a0 a1 a2 a3 : Int) : instr_EncodeX → List (Option AObj)
 | .h1m0 v1 v2 v3 => [some (.cells (Zc (Ze .u8) ([(IntKind.u8.wrap a0)] : List Int)) 5), some (.cells [vi a1, vi a2, vi a3] 52)]
 | .h1m1 v0 v1 v2 v3 => [some (.cells (Zc (Ze .u8) v0) 5), some (.cells [vi a1, vi a2, vi a3] 52)]
 | .h1m2 v0 v1 v2 v3 => [some (.cells (Zc (Ze .u8) v0) 5), some (.cells [vi a1, vi a2, vi a3] 52)]
 | .h1m3 v0 v1 v2 v3 => [some (.cells (Zc (Ze .u8) v0) 5), some (.cells [vi a1, vi a2, vi a3] 52)]
 | .h2m0 v0 v1 v2 v3 v4 => [some (.cells (Zc (Ze .u8) v0) 5), some (.cells [vi a1, vi a2, vi a3] 52)]
 | .h2m1 v0 v1 v2 v3 v4 => [some (.cells (Zc (Ze .u8) v0) 5), some (.cells [vi a1, vi a2, vi a3] 52)]
 | .h2m2 v0 v1 v2 v3 v4 => [some (.cells (Zc (Ze .u8) v0) 5), some (.cells [vi a1, vi a2, vi a3] 52)]

noncomputable def ZaH : Nat → Code × List Za2
 | 1 => Zbz [1, 1, 1, 1, 0, 1, 3] (Zbh Try.f14) []
 | 2 => Zbz [1, 1, 1, 1, 0, 1, 3, 7, 1, 1, 0, 3, 1, 1, 3] (Zbh Try.f14) []
 | _ => (.skip, [])
def Zkt : Nat → Bool
 | 1 => true
 | 2 => true
 | _ => true
noncomputable def ZcI (i : Nat) : List Za2 := match Zkt i with | true => .rnd i :: (ZaH i).2 | false => (ZaH i).2

noncomputable def Zad (a0 a1 a2 a3 : Int) (N : Nat) : Mach := ⟨Try.f14, [], instr_EncodeX, instr_EncodeR, Zaz a0 a1 a2 a3 N, Zqd, ZaH, Zkt, Zrp a0 a1 a2 a3, Zrq a0 a1 a2 a3, ZlI a0 a1 a2 a3, Zks a0 a1 a2 a3⟩

theorem ZmO (a0 a1 a2 a3 v1 v2 v3 : Int) (N : Nat) : (Zad a0 a1 a2 a3 N).Ok Try.prog Zj (.h1m0 v1 v2 v3 : instr_EncodeX) (Zaz a0 a1 a2 a3 N (.h1m0 v1 v2 v3 : instr_EncodeX)) := by
 show (Zad a0 a1 a2 a3 N).Ok Try.prog Zj (.h1m0 v1 v2 v3 : instr_EncodeX) (ZdO a0 a1 a2 a3 N v1 v2 v3)
 unfold ZdO
 refine Mach.ok_bind (fun z0 c0 => ?_)
 cases z0 with
 | r0 y0_0 =>
  exact Mach.ok_head (bK := ZaH 2) (M := Zad a0 a1 a2 a3 N) (cd := 1000000) (cm := 0) (y := (.h2m0 (([(IntKind.u8.wrap a0)] : List Int)) ((IntKind.i64.wrap ((8 : Int) * (IntKind.i64.wrap (y0_0 - (1 : Int)))))) (v1) (v2) (v3) : instr_EncodeX)) (fu := 4000) (orc := (Zh [] [] [] [] [(0, (ZG (v1)  y0_0  2))])) (live := [0, 1]) (tv := fun _ => [some (vs 0 0 1 1), some (vp 1 0), some (vq), some (vi (IntKind.i64.wrap ((8 : Int) * (IntKind.i64.wrap (y0_0 - (1 : Int)))))), some (Value.agg #[vi v1, vi v2, vi v3]), some (vq)]) (bl := [some (.cells (Zc (Ze .u8) ([(IntKind.u8.wrap a0)] : List Int)) 5), some (.cells [vi a1, vi a2, vi a3] 52)]) (ob := [(dP (ZD #[vi v1] (v1)  y0_0  2), true)]) rfl rfl (show ∀ j ∈ Zq (ZaH 2).2, j ∈ Zq (ZcI 1) from by decide +kernel) (fun gv => by kernel_rfl) (Za (Zg (ZH #[vi v1] (v1)  y0_0 N c0  2 rfl (by decide) (by decide))) Zb) rfl (by decide) (by rfl) (fun _ => ⟨⟨Eq.trans (show (vs 0 0 ([(IntKind.u8.wrap a0)] : List Int).length ([(IntKind.u8.wrap a0)] : List Int).length : Value) = vs 0 0 1 1 from (Z2 rfl eqA eqA)) (by rfl), by rfl⟩, ⟨rr, ⟨rr, ⟨rr, ⟨rr, ⟨rr, trivial⟩⟩⟩⟩⟩⟩) ⟨(Zn (E := (Ze .u8)) (α := Int) _ ([(IntKind.u8.wrap a0)] : List Int) _), ⟨⟨rfl, ⟨[], by rfl⟩, by rfl⟩, trivial⟩⟩

theorem ZmP (a0 a1 a2 a3 : Int) (v0 : List Int) (v1 v2 v3 : Int) (N : Nat) : (Zad a0 a1 a2 a3 N).Ok Try.prog Zj (.h1m1 v0 v1 v2 v3 : instr_EncodeX) (Zaz a0 a1 a2 a3 N (.h1m1 v0 v1 v2 v3 : instr_EncodeX)) := by
 show (Zad a0 a1 a2 a3 N).Ok Try.prog Zj (.h1m1 v0 v1 v2 v3 : instr_EncodeX) (ZdP a0 a1 a2 a3 N v0 v1 v2 v3)
 unfold ZdP
 refine Mach.ok_bind (fun z0 c0 => ?_)
 cases z0 with
 | r0 y0_0 =>
  exact Mach.ok_head (bK := ZaH 2) (M := Zad a0 a1 a2 a3 N) (cd := 1000000) (cm := 0) (y := (.h2m1 (v0) ((IntKind.i64.wrap ((8 : Int) * (IntKind.i64.wrap (y0_0 - (1 : Int)))))) (v1) (v2) (v3) : instr_EncodeX)) (fu := 4000) (orc := (Zh [] [] [] [] [(0, (ZG (v2)  y0_0  2))])) (live := [0, 1]) (tv := fun _ => [some (vs 0 0 v0.length v0.length), some (vp 1 0), some (vi (1 : Int)), some (vi (IntKind.i64.wrap ((8 : Int) * (IntKind.i64.wrap (y0_0 - (1 : Int)))))), some (Value.agg #[vi v1, vi v2, vi v3]), some (vi (1 : Int))]) (bl := [some (.cells (Zc (Ze .u8) v0) 5), some (.cells [vi a1, vi a2, vi a3] 52)]) (ob := [(dP (ZD #[vi v2] (v2)  y0_0  2), true)]) rfl rfl (show ∀ j ∈ Zq (ZaH 2).2, j ∈ Zq (ZcI 1) from by decide +kernel) (fun gv => by kernel_rfl) (Za (Zg (ZH #[vi v2] (v2)  y0_0 N c0  2 rfl (by decide) (by decide))) Zb) rfl (by decide) (by rfl) (fun _ => ⟨rr, ⟨rr, ⟨rr, ⟨rr, ⟨rr, ⟨rr, trivial⟩⟩⟩⟩⟩⟩) ⟨(Zn (E := (Ze .u8)) (α := Int) _ v0 _), ⟨⟨rfl, ⟨[], by rfl⟩, by rfl⟩, trivial⟩⟩

theorem ZmQ (a0 a1 a2 a3 : Int) (v0 : List Int) (v1 v2 v3 : Int) (N : Nat) : (Zad a0 a1 a2 a3 N).Ok Try.prog Zj (.h1m2 v0 v1 v2 v3 : instr_EncodeX) (Zaz a0 a1 a2 a3 N (.h1m2 v0 v1 v2 v3 : instr_EncodeX)) := by
 show (Zad a0 a1 a2 a3 N).Ok Try.prog Zj (.h1m2 v0 v1 v2 v3 : instr_EncodeX) (ZdQ a0 a1 a2 a3 N v0 v1 v2 v3)
 unfold ZdQ
 refine Mach.ok_bind (fun z0 c0 => ?_)
 cases z0 with
 | r0 y0_0 =>
  exact Mach.ok_head (bK := ZaH 2) (M := Zad a0 a1 a2 a3 N) (cd := 1000000) (cm := 0) (y := (.h2m2 (v0) ((IntKind.i64.wrap ((8 : Int) * (IntKind.i64.wrap (y0_0 - (1 : Int)))))) (v1) (v2) (v3) : instr_EncodeX)) (fu := 4000) (orc := (Zh [] [] [] [] [(0, (ZG (v3)  y0_0  2))])) (live := [0, 1]) (tv := fun _ => [some (vs 0 0 v0.length v0.length), some (vp 1 0), some (vi (2 : Int)), some (vi (IntKind.i64.wrap ((8 : Int) * (IntKind.i64.wrap (y0_0 - (1 : Int)))))), some (Value.agg #[vi v1, vi v2, vi v3]), some (vi (2 : Int))]) (bl := [some (.cells (Zc (Ze .u8) v0) 5), some (.cells [vi a1, vi a2, vi a3] 52)]) (ob := [(dP (ZD #[vi v3] (v3)  y0_0  2), true)]) rfl rfl (show ∀ j ∈ Zq (ZaH 2).2, j ∈ Zq (ZcI 1) from by decide +kernel) (fun gv => by kernel_rfl) (Za (Zg (ZH #[vi v3] (v3)  y0_0 N c0  2 rfl (by decide) (by decide))) Zb) rfl (by decide) (by rfl) (fun _ => ⟨rr, ⟨rr, ⟨rr, ⟨rr, ⟨rr, ⟨rr, trivial⟩⟩⟩⟩⟩⟩) ⟨(Zn (E := (Ze .u8)) (α := Int) _ v0 _), ⟨⟨rfl, ⟨[], by rfl⟩, by rfl⟩, trivial⟩⟩

theorem ZmR (a0 a1 a2 a3 : Int) (v0 : List Int) (v1 v2 v3 : Int) (N : Nat) : (Zad a0 a1 a2 a3 N).Ok Try.prog Zj (.h1m3 v0 v1 v2 v3 : instr_EncodeX) (Zaz a0 a1 a2 a3 N (.h1m3 v0 v1 v2 v3 : instr_EncodeX)) := by
 show (Zad a0 a1 a2 a3 N).Ok Try.prog Zj (.h1m3 v0 v1 v2 v3 : instr_EncodeX) (Zgd a0 a1 a2 a3 N v0 v1 v2 v3)
 unfold Zgd
 exact Mach.ok_fin (M := Zad a0 a1 a2 a3 N) (cd := 1000000) (cm := 0) (r := (.r1 (v0) : instr_EncodeR)) (fu := 4000) (orc := (Zh [] [] [] [] [])) (live := [0]) (u := Value.tuple #[vs 0 0 v0.length v0.length, vq]) (bl := [some (.cells (Zc (Ze .u8) v0) 5)]) (ob := []) (fun gv => by kernel_rfl) Zb rfl (by decide) (by rfl) rr ⟨(Zn (E := (Ze .u8)) (α := Int) _ v0 _), trivial⟩

theorem ZmS (a0 a1 a2 a3 : Int) (v0 : List Int) (v1 v2 v3 v4 : Int) (N : Nat) : (Zad a0 a1 a2 a3 N).Ok Try.prog Zj (.h2m0 v0 v1 v2 v3 v4 : instr_EncodeX) (Zaz a0 a1 a2 a3 N (.h2m0 v0 v1 v2 v3 v4 : instr_EncodeX)) := by
 show (Zad a0 a1 a2 a3 N).Ok Try.prog Zj (.h2m0 v0 v1 v2 v3 v4 : instr_EncodeX) (Zcs a0 a1 a2 a3 N v0 v1 v2 v3 v4)
 unfold Zcs
 refine Mach.ok_ite (fun g0 => ?_) (fun g0 => ?_)
 ·
  refine Mach.ok_ite (fun g1 => ?_) (fun g1 => ?_)
  ·
   refine Mach.ok_ite (fun g2 => ?_) (fun g2 => ?_)
   ·
    exact Mach.ok_next (M := Zad a0 a1 a2 a3 N) (cd := 1000000) (cm := 0) (y := (.h2m0 ((v0 ++ ([(IntKind.u8.wrap ((IntKind.u64.wrap a1) / (2 ^ (v1).toNat : Int)))] : List Int))) ((v1 - (8 : Int))) (v2) (v3) (v4) : instr_EncodeX)) (fu := 4000) (orc := (Zh [(0, true)] [(3, (v1 - (8 : Int)))] [] [] [(0, .sh (v1).toNat), (1, .ap 1 [Value.int .u8 (IntKind.u8.wrap ((IntKind.u64.wrap a1) / (2 ^ (v1).toNat : Int)))] (Zc (Ze .u8) (v0 ++ ([(IntKind.u8.wrap ((IntKind.u64.wrap a1) / (2 ^ (v1).toNat : Int)))] : List Int))))])) (live := [3, 1]) (tv := fun _ => [some (vs 3 0 (v0.length + 1) (v0.length + 1)), some (vp 1 0), some (vq), some (vi (v1 - (8 : Int))), some (Value.agg #[vi v2, vi v3, vi v4]), some (vq)]) (bl := [some (.cells (Zc (Ze .u8) (v0 ++ ([(IntKind.u8.wrap ((IntKind.u64.wrap a1) / (2 ^ (v1).toNat : Int)))] : List Int))) 5), some (.cells [vi a1, vi a2, vi a3] 52)]) (ob := [((IntKind.i64.wrap (v1 - (8 : Int))) == (v1 - (8 : Int)), true), (dP ((1 = 1 ∧ Z4 (1 * 1) (List.drop 0 [Value.int .u8 (IntKind.u8.wrap ((IntKind.u64.wrap a1) / (2 ^ (v1).toNat : Int)))]) = some [Value.int .u8 (IntKind.u8.wrap ((IntKind.u64.wrap a1) / (2 ^ (v1).toNat : Int)))] ∧ ZV Zbd [Value.int .u8 (IntKind.u8.wrap ((IntKind.u64.wrap a1) / (2 ^ (v1).toNat : Int)))] = true) ∧ 0 < 1 ∧ 1 ≤ 100000 ∧ v0.length < v0.length + 1 ∧ v0.length ≤ 100000 ∧ v0.length * 1 ≤ (List.length (Zc (Ze .u8) v0)) ∧ List.take (v0.length * 1) (Zc (Ze .u8) v0) ++ [Value.int .u8 (IntKind.u8.wrap ((IntKind.u64.wrap a1) / (2 ^ (v1).toNat : Int)))] = (Zc (Ze .u8) (v0 ++ ([(IntKind.u8.wrap ((IntKind.u64.wrap a1) / (2 ^ (v1).toNat : Int)))] : List Int)))), true), (dP (v1 = Int.ofNat (v1).toNat ∧ (v1).toNat ≤ IntKind.u64.bits), true), ((decide (v1 ≥ (0 : Int))), true)]) rfl (show 2 ∈ Zq (ZcI 2) from by decide +kernel) (fun gv => by kernel_rfl) (Za (beq_iff_eq.2 ((wrap_i64 ltA).trans (by first | rfl | omega))) <| Za (Zg ⟨⟨rfl, ⟨rfl, rfl⟩⟩, by omega, by omega, ltA, by omega, (Zci (E := (Ze .u8)) (L := v0) (M := ([(IntKind.u8.wrap ((IntKind.u64.wrap a1) / (2 ^ (v1).toNat : Int)))] : List Int)) (n := v0.length) (show _ = _ * 1 from rfl) (by omega) (R := (v0 ++ ([(IntKind.u8.wrap ((IntKind.u64.wrap a1) / (2 ^ (v1).toNat : Int)))] : List Int))) (by rw [List.take_of_length_le (by omega)]))⟩) <| Za (Zg ⟨by first | rfl | exact ZgI (by omega), show _ ≤ 64 from by omega⟩) <| oY Zb) rfl (by decide) (by rfl) (fun _ => ⟨⟨Eq.trans (show (vs 0 0 (v0 ++ ([(IntKind.u8.wrap ((IntKind.u64.wrap a1) / (2 ^ (v1).toNat : Int)))] : List Int)).length (v0 ++ ([(IntKind.u8.wrap ((IntKind.u64.wrap a1) / (2 ^ (v1).toNat : Int)))] : List Int)).length : Value) = vs 0 0 (v0.length + 1) (v0.length + 1) from (Z2 rfl eqA eqA)) (by rfl), by rfl⟩, ⟨rr, ⟨rr, ⟨rr, ⟨rr, ⟨rr, trivial⟩⟩⟩⟩⟩⟩) ⟨(Zn (E := (Ze .u8)) (α := Int) _ (v0 ++ ([(IntKind.u8.wrap ((IntKind.u64.wrap a1) / (2 ^ (v1).toNat : Int)))] : List Int)) _), ⟨⟨rfl, ⟨[], by rfl⟩, by rfl⟩, trivial⟩⟩
   ·
    exact Mach.ok_none
  ·
   exact Mach.ok_none
 ·
  exact Mach.ok_next (M := Zad a0 a1 a2 a3 N) (cd := 1000000) (cm := 0) (y := (.h1m1 (v0) (v2) (v3) (v4) : instr_EncodeX)) (fu := 4000) (orc := (Zh [(0, false)] [] [] [] [])) (live := [0, 1]) (tv := fun _ => [some (vs 0 0 v0.length v0.length), some (vp 1 0), some (Value.agg #[vi v2, vi v3, vi v4]), some (vi (1 : Int))]) (bl := [some (.cells (Zc (Ze .u8) v0) 5), some (.cells [vi a1, vi a2, vi a3] 52)]) (ob := [((decide (v1 ≥ (0 : Int))), false)]) rfl (show 1 ∈ Zq (ZcI 2) from by decide +kernel) (fun gv => by kernel_rfl) (oN Zb) rfl (by decide) (by rfl) (fun _ => ⟨rr, ⟨rr, ⟨rr, ⟨rr, trivial⟩⟩⟩⟩) ⟨(Zn (E := (Ze .u8)) (α := Int) _ v0 _), ⟨⟨rfl, ⟨[], by rfl⟩, by rfl⟩, trivial⟩⟩

theorem ZmT (a0 a1 a2 a3 : Int) (v0 : List Int) (v1 v2 v3 v4 : Int) (N : Nat) : (Zad a0 a1 a2 a3 N).Ok Try.prog Zj (.h2m1 v0 v1 v2 v3 v4 : instr_EncodeX) (Zaz a0 a1 a2 a3 N (.h2m1 v0 v1 v2 v3 v4 : instr_EncodeX)) := by
 show (Zad a0 a1 a2 a3 N).Ok Try.prog Zj (.h2m1 v0 v1 v2 v3 v4 : instr_EncodeX) (Zct a0 a1 a2 a3 N v0 v1 v2 v3 v4)
 unfold Zct
 refine Mach.ok_ite (fun g0 => ?_) (fun g0 => ?_)
 ·
  refine Mach.ok_ite (fun g1 => ?_) (fun g1 => ?_)
  ·
   refine Mach.ok_ite (fun g2 => ?_) (fun g2 => ?_)
   ·
    exact Mach.ok_next (M := Zad a0 a1 a2 a3 N) (cd := 1000000) (cm := 0) (y := (.h2m1 ((v0 ++ ([(IntKind.u8.wrap ((IntKind.u64.wrap a2) / (2 ^ (v1).toNat : Int)))] : List Int))) ((v1 - (8 : Int))) (v2) (v3) (v4) : instr_EncodeX)) (fu := 4000) (orc := (Zh [(0, true)] [(3, (v1 - (8 : Int)))] [] [] [(0, .sh (v1).toNat), (1, .ap 1 [Value.int .u8 (IntKind.u8.wrap ((IntKind.u64.wrap a2) / (2 ^ (v1).toNat : Int)))] (Zc (Ze .u8) (v0 ++ ([(IntKind.u8.wrap ((IntKind.u64.wrap a2) / (2 ^ (v1).toNat : Int)))] : List Int))))])) (live := [3, 1]) (tv := fun _ => [some (vs 3 0 (v0.length + 1) (v0.length + 1)), some (vp 1 0), some (vi (1 : Int)), some (vi (v1 - (8 : Int))), some (Value.agg #[vi v2, vi v3, vi v4]), some (vi (1 : Int))]) (bl := [some (.cells (Zc (Ze .u8) (v0 ++ ([(IntKind.u8.wrap ((IntKind.u64.wrap a2) / (2 ^ (v1).toNat : Int)))] : List Int))) 5), some (.cells [vi a1, vi a2, vi a3] 52)]) (ob := [((IntKind.i64.wrap (v1 - (8 : Int))) == (v1 - (8 : Int)), true), (dP ((1 = 1 ∧ Z4 (1 * 1) (List.drop 0 [Value.int .u8 (IntKind.u8.wrap ((IntKind.u64.wrap a2) / (2 ^ (v1).toNat : Int)))]) = some [Value.int .u8 (IntKind.u8.wrap ((IntKind.u64.wrap a2) / (2 ^ (v1).toNat : Int)))] ∧ ZV Zbd [Value.int .u8 (IntKind.u8.wrap ((IntKind.u64.wrap a2) / (2 ^ (v1).toNat : Int)))] = true) ∧ 0 < 1 ∧ 1 ≤ 100000 ∧ v0.length < v0.length + 1 ∧ v0.length ≤ 100000 ∧ v0.length * 1 ≤ (List.length (Zc (Ze .u8) v0)) ∧ List.take (v0.length * 1) (Zc (Ze .u8) v0) ++ [Value.int .u8 (IntKind.u8.wrap ((IntKind.u64.wrap a2) / (2 ^ (v1).toNat : Int)))] = (Zc (Ze .u8) (v0 ++ ([(IntKind.u8.wrap ((IntKind.u64.wrap a2) / (2 ^ (v1).toNat : Int)))] : List Int)))), true), (dP (v1 = Int.ofNat (v1).toNat ∧ (v1).toNat ≤ IntKind.u64.bits), true), ((decide (v1 ≥ (0 : Int))), true)]) rfl (show 2 ∈ Zq (ZcI 2) from by decide +kernel) (fun gv => by kernel_rfl) (Za (beq_iff_eq.2 ((wrap_i64 ltA).trans (by first | rfl | omega))) <| Za (Zg ⟨⟨rfl, ⟨rfl, rfl⟩⟩, by omega, by omega, ltA, by omega, (Zci (E := (Ze .u8)) (L := v0) (M := ([(IntKind.u8.wrap ((IntKind.u64.wrap a2) / (2 ^ (v1).toNat : Int)))] : List Int)) (n := v0.length) (show _ = _ * 1 from rfl) (by omega) (R := (v0 ++ ([(IntKind.u8.wrap ((IntKind.u64.wrap a2) / (2 ^ (v1).toNat : Int)))] : List Int))) (by rw [List.take_of_length_le (by omega)]))⟩) <| Za (Zg ⟨by first | rfl | exact ZgI (by omega), show _ ≤ 64 from by omega⟩) <| oY Zb) rfl (by decide) (by rfl) (fun _ => ⟨⟨Eq.trans (show (vs 0 0 (v0 ++ ([(IntKind.u8.wrap ((IntKind.u64.wrap a2) / (2 ^ (v1).toNat : Int)))] : List Int)).length (v0 ++ ([(IntKind.u8.wrap ((IntKind.u64.wrap a2) / (2 ^ (v1).toNat : Int)))] : List Int)).length : Value) = vs 0 0 (v0.length + 1) (v0.length + 1) from (Z2 rfl eqA eqA)) (by rfl), by rfl⟩, ⟨rr, ⟨rr, ⟨rr, ⟨rr, ⟨rr, trivial⟩⟩⟩⟩⟩⟩) ⟨(Zn (E := (Ze .u8)) (α := Int) _ (v0 ++ ([(IntKind.u8.wrap ((IntKind.u64.wrap a2) / (2 ^ (v1).toNat : Int)))] : List Int)) _), ⟨⟨rfl, ⟨[], by rfl⟩, by rfl⟩, trivial⟩⟩
   ·
    exact Mach.ok_none
  ·
   exact Mach.ok_none
 ·
  exact Mach.ok_next (M := Zad a0 a1 a2 a3 N) (cd := 1000000) (cm := 0) (y := (.h1m2 (v0) (v2) (v3) (v4) : instr_EncodeX)) (fu := 4000) (orc := (Zh [(0, false)] [] [] [] [])) (live := [0, 1]) (tv := fun _ => [some (vs 0 0 v0.length v0.length), some (vp 1 0), some (Value.agg #[vi v2, vi v3, vi v4]), some (vi (2 : Int))]) (bl := [some (.cells (Zc (Ze .u8) v0) 5), some (.cells [vi a1, vi a2, vi a3] 52)]) (ob := [((decide (v1 ≥ (0 : Int))), false)]) rfl (show 1 ∈ Zq (ZcI 2) from by decide +kernel) (fun gv => by kernel_rfl) (oN Zb) rfl (by decide) (by rfl) (fun _ => ⟨rr, ⟨rr, ⟨rr, ⟨rr, trivial⟩⟩⟩⟩) ⟨(Zn (E := (Ze .u8)) (α := Int) _ v0 _), ⟨⟨rfl, ⟨[], by rfl⟩, by rfl⟩, trivial⟩⟩

theorem ZmU (a0 a1 a2 a3 : Int) (v0 : List Int) (v1 v2 v3 v4 : Int) (N : Nat) : (Zad a0 a1 a2 a3 N).Ok Try.prog Zj (.h2m2 v0 v1 v2 v3 v4 : instr_EncodeX) (Zaz a0 a1 a2 a3 N (.h2m2 v0 v1 v2 v3 v4 : instr_EncodeX)) := by
 show (Zad a0 a1 a2 a3 N).Ok Try.prog Zj (.h2m2 v0 v1 v2 v3 v4 : instr_EncodeX) (Zcu a0 a1 a2 a3 N v0 v1 v2 v3 v4)
 unfold Zcu
 refine Mach.ok_ite (fun g0 => ?_) (fun g0 => ?_)
 ·
  refine Mach.ok_ite (fun g1 => ?_) (fun g1 => ?_)
  ·
   refine Mach.ok_ite (fun g2 => ?_) (fun g2 => ?_)
   ·
    exact Mach.ok_next (M := Zad a0 a1 a2 a3 N) (cd := 1000000) (cm := 0) (y := (.h2m2 ((v0 ++ ([(IntKind.u8.wrap ((IntKind.u64.wrap a3) / (2 ^ (v1).toNat : Int)))] : List Int))) ((v1 - (8 : Int))) (v2) (v3) (v4) : instr_EncodeX)) (fu := 4000) (orc := (Zh [(0, true)] [(3, (v1 - (8 : Int)))] [] [] [(0, .sh (v1).toNat), (1, .ap 1 [Value.int .u8 (IntKind.u8.wrap ((IntKind.u64.wrap a3) / (2 ^ (v1).toNat : Int)))] (Zc (Ze .u8) (v0 ++ ([(IntKind.u8.wrap ((IntKind.u64.wrap a3) / (2 ^ (v1).toNat : Int)))] : List Int))))])) (live := [3, 1]) (tv := fun _ => [some (vs 3 0 (v0.length + 1) (v0.length + 1)), some (vp 1 0), some (vi (2 : Int)), some (vi (v1 - (8 : Int))), some (Value.agg #[vi v2, vi v3, vi v4]), some (vi (2 : Int))]) (bl := [some (.cells (Zc (Ze .u8) (v0 ++ ([(IntKind.u8.wrap ((IntKind.u64.wrap a3) / (2 ^ (v1).toNat : Int)))] : List Int))) 5), some (.cells [vi a1, vi a2, vi a3] 52)]) (ob := [((IntKind.i64.wrap (v1 - (8 : Int))) == (v1 - (8 : Int)), true), (dP ((1 = 1 ∧ Z4 (1 * 1) (List.drop 0 [Value.int .u8 (IntKind.u8.wrap ((IntKind.u64.wrap a3) / (2 ^ (v1).toNat : Int)))]) = some [Value.int .u8 (IntKind.u8.wrap ((IntKind.u64.wrap a3) / (2 ^ (v1).toNat : Int)))] ∧ ZV Zbd [Value.int .u8 (IntKind.u8.wrap ((IntKind.u64.wrap a3) / (2 ^ (v1).toNat : Int)))] = true) ∧ 0 < 1 ∧ 1 ≤ 100000 ∧ v0.length < v0.length + 1 ∧ v0.length ≤ 100000 ∧ v0.length * 1 ≤ (List.length (Zc (Ze .u8) v0)) ∧ List.take (v0.length * 1) (Zc (Ze .u8) v0) ++ [Value.int .u8 (IntKind.u8.wrap ((IntKind.u64.wrap a3) / (2 ^ (v1).toNat : Int)))] = (Zc (Ze .u8) (v0 ++ ([(IntKind.u8.wrap ((IntKind.u64.wrap a3) / (2 ^ (v1).toNat : Int)))] : List Int)))), true), (dP (v1 = Int.ofNat (v1).toNat ∧ (v1).toNat ≤ IntKind.u64.bits), true), ((decide (v1 ≥ (0 : Int))), true)]) rfl (show 2 ∈ Zq (ZcI 2) from by decide +kernel) (fun gv => by kernel_rfl) (Za (beq_iff_eq.2 ((wrap_i64 ltA).trans (by first | rfl | omega))) <| Za (Zg ⟨⟨rfl, ⟨rfl, rfl⟩⟩, by omega, by omega, ltA, by omega, (Zci (E := (Ze .u8)) (L := v0) (M := ([(IntKind.u8.wrap ((IntKind.u64.wrap a3) / (2 ^ (v1).toNat : Int)))] : List Int)) (n := v0.length) (show _ = _ * 1 from rfl) (by omega) (R := (v0 ++ ([(IntKind.u8.wrap ((IntKind.u64.wrap a3) / (2 ^ (v1).toNat : Int)))] : List Int))) (by rw [List.take_of_length_le (by omega)]))⟩) <| Za (Zg ⟨by first | rfl | exact ZgI (by omega), show _ ≤ 64 from by omega⟩) <| oY Zb) rfl (by decide) (by rfl) (fun _ => ⟨⟨Eq.trans (show (vs 0 0 (v0 ++ ([(IntKind.u8.wrap ((IntKind.u64.wrap a3) / (2 ^ (v1).toNat : Int)))] : List Int)).length (v0 ++ ([(IntKind.u8.wrap ((IntKind.u64.wrap a3) / (2 ^ (v1).toNat : Int)))] : List Int)).length : Value) = vs 0 0 (v0.length + 1) (v0.length + 1) from (Z2 rfl eqA eqA)) (by rfl), by rfl⟩, ⟨rr, ⟨rr, ⟨rr, ⟨rr, ⟨rr, trivial⟩⟩⟩⟩⟩⟩) ⟨(Zn (E := (Ze .u8)) (α := Int) _ (v0 ++ ([(IntKind.u8.wrap ((IntKind.u64.wrap a3) / (2 ^ (v1).toNat : Int)))] : List Int)) _), ⟨⟨rfl, ⟨[], by rfl⟩, by rfl⟩, trivial⟩⟩
   ·
    exact Mach.ok_none
  ·
   exact Mach.ok_none
 ·
  exact Mach.ok_next (M := Zad a0 a1 a2 a3 N) (cd := 1000000) (cm := 0) (y := (.h1m3 (v0) (v2) (v3) (v4) : instr_EncodeX)) (fu := 4000) (orc := (Zh [(0, false)] [] [] [] [])) (live := [0, 1]) (tv := fun _ => [some (vs 0 0 v0.length v0.length), some (vp 1 0), some (Value.agg #[vi v2, vi v3, vi v4]), some (vi (3 : Int))]) (bl := [some (.cells (Zc (Ze .u8) v0) 5), some (.cells [vi a1, vi a2, vi a3] 52)]) (ob := [((decide (v1 ≥ (0 : Int))), false)]) rfl (show 1 ∈ Zq (ZcI 2) from by decide +kernel) (fun gv => by kernel_rfl) (oN Zb) rfl (by decide) (by rfl) (fun _ => ⟨rr, ⟨rr, ⟨rr, ⟨rr, trivial⟩⟩⟩⟩) ⟨(Zn (E := (Ze .u8)) (α := Int) _ v0 _), ⟨⟨rfl, ⟨[], by rfl⟩, by rfl⟩, trivial⟩⟩

theorem Zpw (a0 a1 a2 a3 : Int) (N : Nat) : (Zad a0 a1 a2 a3 N).Enter Try.prog Zj #[Value.agg #[vi a0, vi a1, vi a2, vi a3]] (ZfQ a0 a1 a2 a3 N) := by
 unfold ZfQ
 refine Mach.en_bind (fun z0 c0 => ?_)
 cases z0 with
 | r0 y0_0 =>
  refine Mach.en_ite (fun g1 => ?_) (fun g1 => ?_)
  ·
   exact Mach.en_fin (M := Zad a0 a1 a2 a3 N) (cd := 1000000) (cm := 0) (r := (.r0 (y0_0) : instr_EncodeR)) (fu := 4000) (orc := (Zh [(0, true)] [] [] [] [(0, (Zdn (a0) (a1) (a2) (a3)  y0_0  1))])) (live := []) (u := Value.tuple #[vn, vi y0_0]) (bl := []) (ob := [((y0_0 != (0 : Int)), true), (dP (ZcH #[Value.agg #[vi a0, vi a1, vi a2, vi a3]] (a0) (a1) (a2) (a3)  y0_0  1), true)]) (by kernel_rfl) (oD <| Za (Zg (Zdo #[Value.agg #[vi a0, vi a1, vi a2, vi a3]] (a0) (a1) (a2) (a3)  y0_0 N c0  1 rfl (by decide) (by decide))) Zb) rfl (by decide) (by rfl) rr trivial
  ·
   refine Mach.en_bind (fun z2 c2 => ?_)
   cases z2 with
   | r0 y2_0 y2_1 y2_2 y2_3 =>
    exact Mach.en_head (bK := ZaH 1) (M := Zad a0 a1 a2 a3 N) (cd := 1000000) (cm := 0) (y := (.h1m0 (y2_1) (y2_2) (y2_3) : instr_EncodeX)) (fu := 4000) (orc := (Zh [(0, false)] [] [] [] [(0, (Zdn (a0) (a1) (a2) (a3)  y0_0  1)), (2, (ZeV (a0)  y2_0 y2_1 y2_2 y2_3  3))])) (live := [1, 2]) (tv := [some (vs 1 0 1 1), some (vp 2 0), some (Value.agg #[vi y2_1, vi y2_2, vi y2_3]), some (vq)]) (bl := [some (.cells [Value.int .u8 (IntKind.u8.wrap a0)] 5), some (.cells [vi a1, vi a2, vi a3] 52)]) (ob := [(dP (Zea #[vi a0] (a0)  y2_0 y2_1 y2_2 y2_3  3), true), ((y0_0 != (0 : Int)), false), (dP (ZcH #[Value.agg #[vi a0, vi a1, vi a2, vi a3]] (a0) (a1) (a2) (a3)  y0_0  1), true)]) rfl rfl (show Zq (ZaH 1).2 = [] from rfl) (by kernel_rfl) (Za (Zg (ZeW #[vi a0] (a0)  y2_0 y2_1 y2_2 y2_3 N c2  3 rfl (by decide) (by decide))) <| oE <| Za (Zg (Zdo #[Value.agg #[vi a0, vi a1, vi a2, vi a3]] (a0) (a1) (a2) (a3)  y0_0 N c0  1 rfl (by decide) (by decide))) Zb) rfl (by decide) (by rfl) ⟨rr, ⟨rr, ⟨rr, ⟨rr, trivial⟩⟩⟩⟩ ⟨(Zaq (E := (Ze .u8)) _ (L := ([(IntKind.u8.wrap a0)] : List Int)) _ (show ([Value.int .u8 (IntKind.u8.wrap a0)] : List Value) = Zc (Ze .u8) ([(IntKind.u8.wrap a0)] : List Int) from rfl)), ⟨⟨rfl, ⟨[], by rfl⟩, by rfl⟩, trivial⟩⟩

theorem Zic (a0 a1 a2 a3 : Int) (N : Nat) (r : instr_EncodeR) (h : Zc8 a0 a1 a2 a3 N = some r) : LSpec Try.prog 14 #[Value.agg #[vi a0, vi a1, vi a2, vi a3]] [] (ZlI a0 a1 a2 a3 r) (Zks a0 a1 a2 a3 r) :=
 Mach.spec ZaR (Zad a0 a1 a2 a3 N) Try.func14 (by kernel_rfl) (by kernel_rfl) (fun x => by cases x <;> exact Zal _ rfl) (fun r => by cases r <;> exact Zal _ rfl) (fun x => by
  cases x with
  | h1m0 _ _ _ => exact fun _ => (show ¬ (1 ∈ Zq (ZaH 1).2) from by decide +kernel)
  | h1m1 _ _ _ _ => exact fun _ => (show ¬ (1 ∈ Zq (ZaH 1).2) from by decide +kernel)
  | h1m2 _ _ _ _ => exact fun _ => (show ¬ (1 ∈ Zq (ZaH 1).2) from by decide +kernel)
  | h1m3 _ _ _ _ => exact fun _ => (show ¬ (1 ∈ Zq (ZaH 1).2) from by decide +kernel)
  | h2m0 _ _ _ _ _ => exact fun _ => (show ¬ (2 ∈ Zq (ZaH 2).2) from by decide +kernel)
  | h2m1 _ _ _ _ _ => exact fun _ => (show ¬ (2 ∈ Zq (ZaH 2).2) from by decide +kernel)
  | h2m2 _ _ _ _ _ => exact fun _ => (show ¬ (2 ∈ Zq (ZaH 2).2) from by decide +kernel)
  ) (fun x => (show (Zad a0 a1 a2 a3 N).Ok Try.prog Zj x (Zaz a0 a1 a2 a3 N x) from by
  cases x with
  | h1m0 v1 v2 v3 => exact ZmO a0 a1 a2 a3 v1 v2 v3 N
  | h1m1 v0 v1 v2 v3 => exact ZmP a0 a1 a2 a3 v0 v1 v2 v3 N
  | h1m2 v0 v1 v2 v3 => exact ZmQ a0 a1 a2 a3 v0 v1 v2 v3 N
  | h1m3 v0 v1 v2 v3 => exact ZmR a0 a1 a2 a3 v0 v1 v2 v3 N
  | h2m0 v0 v1 v2 v3 v4 => exact ZmS a0 a1 a2 a3 v0 v1 v2 v3 v4 N
  | h2m1 v0 v1 v2 v3 v4 => exact ZmT a0 a1 a2 a3 v0 v1 v2 v3 v4 N
  | h2m2 v0 v1 v2 v3 v4 => exact ZmU a0 a1 a2 a3 v0 v1 v2 v3 v4 N
  )) (Zpw a0 a1 a2 a3 N) (n := N) h

noncomputable def Zku (a0 a1 a2 a3 w0 : Int) (n : Nat) : Za4 := .call [] (Value.tuple #[vn, vi w0]) [] 0
def Zhl (A : Array Value) (a0 a1 a2 a3 w0 : Int) (n : Nat) : Prop := ZB Try.prog 14 A [] (Value.tuple #[vn, vi w0]) [] n 0

theorem Zkv (A : Array Value) (a0 a1 a2 a3 w0 : Int) (N : Nat) (h : Zc8 a0 a1 a2 a3 N = some (.r0 w0)) (n : Nat) (hA : A = #[Value.agg #[vi a0, vi a1, vi a2, vi a3]]) (hnd : ([] : List Nat).Nodup) (hlt : ∀ k ∈ ([] : List Nat), k < n) : Zhl A a0 a1 a2 a3 w0  n :=
 ZQ hA (LSpec.callL (show LSpec Try.prog 14 #[Value.agg #[vi a0, vi a1, vi a2, vi a3]] [] (Value.tuple #[vn, vi w0]) [] from Zic a0 a1 a2 a3 N _ h) [] n [] rfl hnd hlt (show 0 ≤ 0 from by decide) (show ∀ j ∈ ([] : List Nat), j < 0 from by decide) (by rfl) trivial (by rfl) trivial trivial rfl rfl rfl rfl rfl)

noncomputable def Zkw (a0 a1 a2 a3 : Int) (w0 : List Int) (n : Nat) : Za4 := .call [] (Value.tuple #[vs n 0 w0.length w0.length, vq]) [(n, some (.cells (Zc (Ze .u8) w0) 5))] 1
def Zhm (A : Array Value) (a0 a1 a2 a3 : Int) (w0 : List Int) (n : Nat) : Prop := ZB Try.prog 14 A [] (Value.tuple #[vs n 0 w0.length w0.length, vq]) [(n, some (.cells (Zc (Ze .u8) w0) 5))] n 1

theorem Zkx (A : Array Value) (a0 a1 a2 a3 : Int) (w0 : List Int) (N : Nat) (h : Zc8 a0 a1 a2 a3 N = some (.r1 w0)) (n : Nat) (hA : A = #[Value.agg #[vi a0, vi a1, vi a2, vi a3]]) (hnd : ([] : List Nat).Nodup) (hlt : ∀ k ∈ ([] : List Nat), k < n) : Zhm A a0 a1 a2 a3 w0  n :=
 ZQ hA (LSpec.callL (show LSpec Try.prog 14 #[Value.agg #[vi a0, vi a1, vi a2, vi a3]] [] (Value.tuple #[vs 0 0 w0.length w0.length, vq]) [some (.cells (Zc (Ze .u8) w0) 5)] from Zic a0 a1 a2 a3 N _ h) [] n [0] rfl hnd hlt (show 0 ≤ 1 from by decide) (show ∀ j ∈ ([0] : List Nat), j < 1 from by decide) (by rfl) trivial (by rfl) ⟨(ZaE _ _ _), trivial⟩ ⟨(by decide), trivial⟩ rfl rfl rfl rfl (Zf (ZaJ rfl (ZeN (ZbJ _ _ _))) rfl))

noncomputable def ZqF (L0 : List Int) : ZdT → Value
 | .r0 w1 => Value.int .u8 w1
noncomputable def Zpx (L0 : List Int) : ZdT → List (Option AObj)
 | .r0 w1 => [some (.cells (Zc (Ze .u8) L0) 5)]

def Zul : Zcj → Nat
 | .h1m0 v2 v3 => 1
noncomputable def ZuI (L0 : List Int) : Zcj → List (Nat × Value)
 | .h1m0 v2 v3 => [(3, vp 1 0), (4, Value.func (.func 24) #[] #[vp 1 0]), (8, vs 0 0 L0.length L0.length), (9, vi (L0.length : Int)), (10, vi (v2 : Int))]
noncomputable def ZuJ (L0 : List Int) : Zcj → List (Option AObj)
 | .h1m0 v2 v3 => [some (.cells (Zc (Ze .u8) L0) 5), some (.cells [Value.int .u8 v3] 5)]

noncomputable def Zg6 : Nat → Code × List Za2
 | 1 => Zbz [1, 1, 1, 0, 1, 3] (Zbh Try.f15) []
 | _ => (.skip, [])
def Zpy : Nat → Bool
 | 1 => true
 | _ => true
noncomputable def ZuK (i : Nat) : List Za2 := match Zpy i with | true => .rnd i :: (Zg6 i).2 | false => (Zg6 i).2

noncomputable def Zfc (L0 : List Int) (N : Nat) : Mach := ⟨Try.f15, [.cells (Zc (Ze .u8) L0) 5], Zcj, ZdT, ZfI L0 N, Zul, Zg6, Zpy, ZuI L0, ZuJ L0, ZqF L0, Zpx L0⟩

theorem Zqe (L0 : List Int) (v2 : Nat) (v3 : Int) (N : Nat) : (Zfc L0 N).Ok Try.prog Zj (.h1m0 v2 v3 : Zcj) (ZfI L0 N (.h1m0 v2 v3 : Zcj)) := by
 show (Zfc L0 N).Ok Try.prog Zj (.h1m0 v2 v3 : Zcj) (ZdK L0 N v2 v3)
 unfold ZdK
 refine Mach.ok_ite (fun g0 => ?_) (fun g0 => ?_)
 ·
  refine Mach.ok_ite (fun g1 => ?_) (fun g1 => ?_)
  ·
   exact Mach.ok_next (M := Zfc L0 N) (cd := 1000000) (cm := 0) (y := (.h1m0 ((v2 + 1)) ((IntKind.u8.wrap (v3 + (L0.getD v2 0)))) : Zcj)) (fu := 4000) (orc := (Zh [(0, true)] [(1, (((v2 + 1) : Nat) : Int))] [(0, v2)] [(0, [.k .u8 (L0.getD v2 0)])] [])) (live := [0, 1]) (tv := fun _ => [some (vp 1 0), some (Value.func (.func 24) #[] #[vp 1 0]), some (vs 0 0 L0.length L0.length), some (vi (L0.length : Int)), some (vi (((v2 + 1) : Nat) : Int))]) (bl := [some (.cells (Zc (Ze .u8) L0) 5), some (.cells [Value.int .u8 (IntKind.u8.wrap (v3 + (L0.getD v2 0)))] 5)]) (ob := [((IntKind.i64.wrap ((v2 : Int) + (1 : Int))) == (((v2 + 1) : Nat) : Int), true), (Zan (Z4 1 (List.drop (0 + (v2 * 1)) (Zc (Ze .u8) L0))) [.k .u8 (L0.getD v2 0)], true), (Nat.blt v2 L0.length, true), ((v2 : Int) == Int.ofNat v2, true), ((decide ((v2 : Int) < (L0.length : Int))), true)]) rfl (show 1 ∈ Zq (ZuK 1) from by decide +kernel) (fun gv => by kernel_rfl) (Za (beq_iff_eq.2 ((wrap_i64 ltA).trans (by first | rfl | omega))) <| Za (ZbH (E := (Ze .u8)) (L := L0) (i := v2) (q := 0) (by omega) (show (0 + (v2 * 1)) = v2 * 1 + 0 from by omega) (show 0 + 1 ≤ 1 from by decide) rfl rfl) <| oB <| oI <| oY Zb) rfl (by decide) (by rfl) (fun _ => ⟨rr, ⟨rr, ⟨rr, ⟨rr, ⟨rr, trivial⟩⟩⟩⟩⟩) ⟨(Zn (E := (Ze .u8)) (α := Int) _ L0 _), ⟨⟨rfl, ⟨[], by rfl⟩, by rfl⟩, trivial⟩⟩
  ·
   exact Mach.ok_none
 ·
  exact Mach.ok_fin (M := Zfc L0 N) (cd := 1000000) (cm := 0) (r := (.r0 (v3) : ZdT)) (fu := 4000) (orc := (Zh [(0, false)] [] [] [] [])) (live := [0]) (u := Value.int .u8 v3) (bl := [some (.cells (Zc (Ze .u8) L0) 5)]) (ob := [((decide ((v2 : Int) < (L0.length : Int))), false)]) (fun gv => by kernel_rfl) (oN Zb) rfl (by decide) (by rfl) rr ⟨(Zn (E := (Ze .u8)) (α := Int) _ L0 _), trivial⟩

theorem Ztt (L0 : List Int) (N : Nat) : (Zfc L0 N).Enter Try.prog Zj #[vs 0 0 L0.length L0.length] (Ziy L0 N) := by
 unfold Ziy
 exact Mach.en_head (bK := Zg6 1) (M := Zfc L0 N) (cd := 1000000) (cm := 0) (y := (.h1m0 (0) ((0 : Int)) : Zcj)) (fu := 4000) (orc := (Zh [] [] [] [] [])) (live := [0, 1]) (tv := [some (vp 1 0), some (Value.func (.func 24) #[] #[vp 1 0]), some (vs 0 0 L0.length L0.length), some (vi (L0.length : Int)), some (vq)]) (bl := [some (.cells (Zc (Ze .u8) L0) 5), some (.cells [Value.int .u8 (0 : Int)] 5)]) (ob := []) rfl rfl (show Zq (Zg6 1).2 = [] from rfl) (by kernel_rfl) Zb rfl (by decide) (by rfl) ⟨rr, ⟨rr, ⟨rr, ⟨rr, ⟨⟨Eq.trans (show (vi ((0 : Nat) : Int) : Value) = vq from (congrArg (Value.int .i64) (by first | rfl | omega))) (by rfl), by rfl⟩, trivial⟩⟩⟩⟩⟩ ⟨(Zn (E := (Ze .u8)) (α := Int) _ L0 _), ⟨⟨rfl, ⟨[], by rfl⟩, by rfl⟩, trivial⟩⟩

theorem Zrr (L0 : List Int) (N : Nat) (r : ZdT) (h : ZiL L0 N = some r) : LSpec Try.prog 15 #[vs 0 0 L0.length L0.length] [.cells (Zc (Ze .u8) L0) 5] (ZqF L0 r) (Zpx L0 r) :=
 Mach.spec ZaR (Zfc L0 N) Try.func15 (by kernel_rfl) (by kernel_rfl) (fun x => by cases x <;> exact Zal _ rfl) (fun r => by cases r <;> exact Zal _ rfl) (fun x => by
  cases x with
  | h1m0 _ _ => exact fun _ => (show ¬ (1 ∈ Zq (Zg6 1).2) from by decide +kernel)
  ) (fun x => (show (Zfc L0 N).Ok Try.prog Zj x (ZfI L0 N x) from by
  cases x with
  | h1m0 v2 v3 => exact Zqe L0 v2 v3 N
  )) (Ztt L0 N) (n := N) h

noncomputable def Zpz (L0 : List Int) (w1 : Int) (k0 n : Nat) : Za4 := .call [(k0, .cells (Zc (Ze .u8) L0) 5)] (Value.int .u8 w1) [] 0
def Zlk (A : Array Value) (L0 : List Int) (w1 : Int) (k0 n : Nat) : Prop := ZB Try.prog 15 A [(k0, .cells (Zc (Ze .u8) L0) 5)] (Value.int .u8 w1) [] n 0

theorem Zp0 (A : Array Value) (L0 : List Int) (w1 : Int) (N : Nat) (h : ZiL L0 N = some (.r0 w1)) (k0 n : Nat) (hA : A = #[vs k0 0 L0.length L0.length]) (hnd : ([k0] : List Nat).Nodup) (hlt : ∀ k ∈ ([k0] : List Nat), k < n) : Zlk A L0 w1 k0 n :=
 ZQ hA (LSpec.callL (show LSpec Try.prog 15 #[vs 0 0 L0.length L0.length] [.cells (Zc (Ze .u8) L0) 5] (Value.int .u8 w1) [some (.cells (Zc (Ze .u8) L0) 5)] from Zrr L0 N _ h) [k0] n [] rfl hnd hlt (show 1 ≤ 1 from by decide) (show ∀ j ∈ ([] : List Nat), j < 1 from by decide) (by rfl) ⟨(ZaE _ _ _), trivial⟩ (by rfl) ⟨(ZaE _ _ _), trivial⟩ ⟨.inr rfl, trivial⟩ rfl rfl rfl (Zf (ZaJ rfl (ZbJ _ _ _)) rfl) rfl)

noncomputable def ZmV (o0 : Nat) (L1 : List R_iiii) (n2 n3 : Nat) (O0 : Obj) : Zb0 → Value
 | .r0 w2 => Value.tuple #[vn, vi w2]
 | .r1 w2 => Value.tuple #[vs 1 0 w2.length w2.length, vq]
noncomputable def ZlJ (o0 : Nat) (L1 : List R_iiii) (n2 n3 : Nat) (O0 : Obj) : Zb0 → List (Option AObj)
 | .r0 w2 => [some (.ro O0)]
 | .r1 w2 => [some (.ro O0), some (.cells (Zc (Ze .u8) w2) 5)]

def Zrs : ZaK → Nat
 | .h1m0 v2 v6 => 1
noncomputable def ZsI (o0 : Nat) (L1 : List R_iiii) (n2 n3 : Nat) (O0 : Obj) : ZaK → List (Nat × Value)
 | .h1m0 v2 v6 => [(4, vs 1 0 v2.length v2.length), (22, vs 0 o0 n2 n3), (23, vi (n2 : Int)), (24, vi (v6 : Int))]
noncomputable def ZsJ (o0 : Nat) (L1 : List R_iiii) (n2 n3 : Nat) (O0 : Obj) : ZaK → List (Option AObj)
 | .h1m0 v2 v6 => [some (.ro O0), some (.cells (Zc (Ze .u8) v2) 5)]

noncomputable def ZeX : Nat → Code × List Za2
 | 1 => Zbz [1, 1, 1, 0, 1, 3] (Zbh Try.f7) []
 | _ => (.skip, [])
def ZlK : Nat → Bool
 | 1 => true
 | _ => true
noncomputable def ZiO (i : Nat) : List Za2 := match ZlK i with | true => .rnd i :: (ZeX i).2 | false => (ZeX i).2

noncomputable def ZbP (o0 : Nat) (L1 : List R_iiii) (n2 n3 : Nat) (O0 : Obj) (N : Nat) : Mach := ⟨Try.f7, [.ro O0], ZaK, Zb0, Zc2 L1 n2 n3 N, Zrs, ZeX, ZlK, ZsI o0 L1 n2 n3 O0, ZsJ o0 L1 n2 n3 O0, ZmV o0 L1 n2 n3 O0, ZlJ o0 L1 n2 n3 O0⟩

theorem ZnQ (o0 : Nat) (L1 : List R_iiii) (n2 n3 : Nat) (O0 : Obj) (F0 : Zbk O0 o0 L1) (v2 : List Int) (v6 N : Nat) : (ZbP o0 L1 n2 n3 O0 N).Ok Try.prog Zj (.h1m0 v2 v6 : ZaK) (Zc2 L1 n2 n3 N (.h1m0 v2 v6 : ZaK)) := by
 show (ZbP o0 L1 n2 n3 O0 N).Ok Try.prog Zj (.h1m0 v2 v6 : ZaK) (ZbK L1 n2 n3 N v2 v6)
 unfold ZbK
 refine Mach.ok_ite (fun g0 => ?_) (fun g0 => ?_)
 ·
  refine Mach.ok_ite (fun g1 => ?_) (fun g1 => ?_)
  ·
   refine Mach.ok_bind (fun z2 c2 => ?_)
   cases z2 with
   | r0 y2_0 =>
    refine Mach.ok_ite (fun g3 => ?_) (fun g3 => ?_)
    ·
     exact Mach.ok_fin (M := ZbP o0 L1 n2 n3 O0 N) (cd := 1000000) (cm := 0) (r := (.r0 ((110 : Int)) : Zb0)) (fu := 4000) (orc := (Zh [(0, true), (1, true)] [] [(0, v6)] [(0, [.i (L1.getD v6 R_iiii.z).a0, .i (L1.getD v6 R_iiii.z).a1, .i (L1.getD v6 R_iiii.z).a2, .i (L1.getD v6 R_iiii.z).a3])] [(1, (Zku ((L1.getD v6 R_iiii.z).a0) ((L1.getD v6 R_iiii.z).a1) ((L1.getD v6 R_iiii.z).a2) ((L1.getD v6 R_iiii.z).a3)  y2_0  3))])) (live := [0]) (u := Value.tuple #[vn, vi (110 : Int)]) (bl := [some (.ro O0)]) (ob := [((y2_0 != (0 : Int)), true), (dP (Zhl #[Value.agg #[vi (L1.getD v6 R_iiii.z).a0, vi (L1.getD v6 R_iiii.z).a1, vi (L1.getD v6 R_iiii.z).a2, vi (L1.getD v6 R_iiii.z).a3]] ((L1.getD v6 R_iiii.z).a0) ((L1.getD v6 R_iiii.z).a1) ((L1.getD v6 R_iiii.z).a2) ((L1.getD v6 R_iiii.z).a3)  y2_0  3), true), (Zan (Za1 O0 (o0 + (v6 * 4)) 4) [.i (L1.getD v6 R_iiii.z).a0, .i (L1.getD v6 R_iiii.z).a1, .i (L1.getD v6 R_iiii.z).a2, .i (L1.getD v6 R_iiii.z).a3], true), (Nat.blt v6 n2, true), ((v6 : Int) == Int.ofNat v6, true), ((decide ((v6 : Int) < (n2 : Int))), true)]) (fun gv => by kernel_rfl) (oD <| Za (Zg (Zkv #[Value.agg #[vi (L1.getD v6 R_iiii.z).a0, vi (L1.getD v6 R_iiii.z).a1, vi (L1.getD v6 R_iiii.z).a2, vi (L1.getD v6 R_iiii.z).a3]] ((L1.getD v6 R_iiii.z).a0) ((L1.getD v6 R_iiii.z).a1) ((L1.getD v6 R_iiii.z).a2) ((L1.getD v6 R_iiii.z).a3)  y2_0 N c2  3 rfl (by decide) (by decide))) <| Za ((show (o0 + v6 * 4 + 0) = (o0 + (v6 * 4)) from by omega) ▸ F0 v6 (by omega) 0 4 (show 0 + 4 ≤ 4 from by decide)) <| oB <| oI <| oY Zb) rfl (by decide) (by rfl) rr ⟨rfl, trivial⟩
    ·
     refine Mach.ok_ite (fun g4 => ?_) (fun g4 => ?_)
     ·
      exact Mach.ok_next (M := ZbP o0 L1 n2 n3 O0 N) (cd := 1000000) (cm := 0) (y := (.h1m0 (v2) ((v6 + 1)) : ZaK)) (fu := 4000) (orc := (Zh [(0, true), (1, false)] [(0, (((v6 + 1) : Nat) : Int))] [(0, v6)] [(0, [.i (L1.getD v6 R_iiii.z).a0, .i (L1.getD v6 R_iiii.z).a1, .i (L1.getD v6 R_iiii.z).a2, .i (L1.getD v6 R_iiii.z).a3])] [(1, (Zku ((L1.getD v6 R_iiii.z).a0) ((L1.getD v6 R_iiii.z).a1) ((L1.getD v6 R_iiii.z).a2) ((L1.getD v6 R_iiii.z).a3)  y2_0  3))])) (live := [0, 1]) (tv := fun _ => [some (vs 1 0 v2.length v2.length), some (vs 0 o0 n2 n3), some (vi (n2 : Int)), some (vi (((v6 + 1) : Nat) : Int))]) (bl := [some (.ro O0), some (.cells (Zc (Ze .u8) v2) 5)]) (ob := [((IntKind.i64.wrap ((v6 : Int) + (1 : Int))) == (((v6 + 1) : Nat) : Int), true), ((y2_0 != (0 : Int)), false), (dP (Zhl #[Value.agg #[vi (L1.getD v6 R_iiii.z).a0, vi (L1.getD v6 R_iiii.z).a1, vi (L1.getD v6 R_iiii.z).a2, vi (L1.getD v6 R_iiii.z).a3]] ((L1.getD v6 R_iiii.z).a0) ((L1.getD v6 R_iiii.z).a1) ((L1.getD v6 R_iiii.z).a2) ((L1.getD v6 R_iiii.z).a3)  y2_0  3), true), (Zan (Za1 O0 (o0 + (v6 * 4)) 4) [.i (L1.getD v6 R_iiii.z).a0, .i (L1.getD v6 R_iiii.z).a1, .i (L1.getD v6 R_iiii.z).a2, .i (L1.getD v6 R_iiii.z).a3], true), (Nat.blt v6 n2, true), ((v6 : Int) == Int.ofNat v6, true), ((decide ((v6 : Int) < (n2 : Int))), true)]) rfl (show 1 ∈ Zq (ZiO 1) from by decide +kernel) (fun gv => by kernel_rfl) (Za (beq_iff_eq.2 ((wrap_i64 ltA).trans (by first | rfl | omega))) <| oE <| Za (Zg (Zkv #[Value.agg #[vi (L1.getD v6 R_iiii.z).a0, vi (L1.getD v6 R_iiii.z).a1, vi (L1.getD v6 R_iiii.z).a2, vi (L1.getD v6 R_iiii.z).a3]] ((L1.getD v6 R_iiii.z).a0) ((L1.getD v6 R_iiii.z).a1) ((L1.getD v6 R_iiii.z).a2) ((L1.getD v6 R_iiii.z).a3)  y2_0 N c2  3 rfl (by decide) (by decide))) <| Za ((show (o0 + v6 * 4 + 0) = (o0 + (v6 * 4)) from by omega) ▸ F0 v6 (by omega) 0 4 (show 0 + 4 ≤ 4 from by decide)) <| oB <| oI <| oY Zb) rfl (by decide) (by rfl) (fun _ => ⟨rr, ⟨rr, ⟨rr, ⟨rr, trivial⟩⟩⟩⟩) ⟨rfl, ⟨(Zn (E := (Ze .u8)) (α := Int) _ v2 _), trivial⟩⟩
     ·
      exact Mach.ok_none
   | r1 y2_0 =>
    refine Mach.ok_ite (fun g3 => ?_) (fun g3 => ?_)
    ·
     refine Mach.ok_ite (fun g4 => ?_) (fun g4 => ?_)
     ·
      exact Mach.ok_next (M := ZbP o0 L1 n2 n3 O0 N) (cd := 1000000) (cm := 0) (y := (.h1m0 (v2) ((v6 + 1)) : ZaK)) (fu := 4000) (orc := (Zh [(0, true)] [(0, (((v6 + 1) : Nat) : Int))] [(0, v6)] [(0, [.i (L1.getD v6 R_iiii.z).a0, .i (L1.getD v6 R_iiii.z).a1, .i (L1.getD v6 R_iiii.z).a2, .i (L1.getD v6 R_iiii.z).a3])] [(1, (Zkw ((L1.getD v6 R_iiii.z).a0) ((L1.getD v6 R_iiii.z).a1) ((L1.getD v6 R_iiii.z).a2) ((L1.getD v6 R_iiii.z).a3)  y2_0  3)), (2, .ap0)])) (live := [0, 1]) (tv := fun _ => [some (vs 1 0 v2.length v2.length), some (vs 0 o0 n2 n3), some (vi (n2 : Int)), some (vi (((v6 + 1) : Nat) : Int))]) (bl := [some (.ro O0), some (.cells (Zc (Ze .u8) v2) 5)]) (ob := [((IntKind.i64.wrap ((v6 : Int) + (1 : Int))) == (((v6 + 1) : Nat) : Int), true), (dP (0 = y2_0.length ∧ Z4 (y2_0.length * 1) (List.drop 0 (Zc (Ze .u8) y2_0)) = some [] ∧ ZV Zbd [] = true), true), (dP (Zhm #[Value.agg #[vi (L1.getD v6 R_iiii.z).a0, vi (L1.getD v6 R_iiii.z).a1, vi (L1.getD v6 R_iiii.z).a2, vi (L1.getD v6 R_iiii.z).a3]] ((L1.getD v6 R_iiii.z).a0) ((L1.getD v6 R_iiii.z).a1) ((L1.getD v6 R_iiii.z).a2) ((L1.getD v6 R_iiii.z).a3)  y2_0  3), true), (Zan (Za1 O0 (o0 + (v6 * 4)) 4) [.i (L1.getD v6 R_iiii.z).a0, .i (L1.getD v6 R_iiii.z).a1, .i (L1.getD v6 R_iiii.z).a2, .i (L1.getD v6 R_iiii.z).a3], true), (Nat.blt v6 n2, true), ((v6 : Int) == Int.ofNat v6, true), ((decide ((v6 : Int) < (n2 : Int))), true)]) rfl (show 1 ∈ Zq (ZiO 1) from by decide +kernel) (fun gv => by kernel_rfl) (Za (beq_iff_eq.2 ((wrap_i64 ltA).trans (by first | rfl | omega))) <| Za (Zg ⟨by omega, by rw [show y2_0.length = 0 by omega]; rfl, rfl⟩) <| Za (Zg (Zkx #[Value.agg #[vi (L1.getD v6 R_iiii.z).a0, vi (L1.getD v6 R_iiii.z).a1, vi (L1.getD v6 R_iiii.z).a2, vi (L1.getD v6 R_iiii.z).a3]] ((L1.getD v6 R_iiii.z).a0) ((L1.getD v6 R_iiii.z).a1) ((L1.getD v6 R_iiii.z).a2) ((L1.getD v6 R_iiii.z).a3)  y2_0 N c2  3 rfl (by decide) (by decide))) <| Za ((show (o0 + v6 * 4 + 0) = (o0 + (v6 * 4)) from by omega) ▸ F0 v6 (by omega) 0 4 (show 0 + 4 ≤ 4 from by decide)) <| oB <| oI <| oY Zb) rfl (by decide) (by rfl) (fun _ => ⟨rr, ⟨rr, ⟨rr, ⟨rr, trivial⟩⟩⟩⟩) ⟨rfl, ⟨(Zn (E := (Ze .u8)) (α := Int) _ v2 _), trivial⟩⟩
     ·
      exact Mach.ok_none
    ·
     refine Mach.ok_ite (fun g4 => ?_) (fun g4 => ?_)
     ·
      refine Mach.ok_ite (fun g5 => ?_) (fun g5 => ?_)
      ·
       refine Mach.ok_ite (fun g6 => ?_) (fun g6 => ?_)
       ·
        exact Mach.ok_next (M := ZbP o0 L1 n2 n3 O0 N) (cd := 1000000) (cm := 0) (y := (.h1m0 ((v2 ++ y2_0)) ((v6 + 1)) : ZaK)) (fu := 4000) (orc := (Zh [(0, true)] [(0, (((v6 + 1) : Nat) : Int))] [(0, v6)] [(0, [.i (L1.getD v6 R_iiii.z).a0, .i (L1.getD v6 R_iiii.z).a1, .i (L1.getD v6 R_iiii.z).a2, .i (L1.getD v6 R_iiii.z).a3])] [(1, (Zkw ((L1.getD v6 R_iiii.z).a0) ((L1.getD v6 R_iiii.z).a1) ((L1.getD v6 R_iiii.z).a2) ((L1.getD v6 R_iiii.z).a3)  y2_0  3)), (2, .ap y2_0.length (Zc (Ze .u8) y2_0) (Zc (Ze .u8) (v2 ++ y2_0)))])) (live := [0, 4]) (tv := fun _ => [some (vs 4 0 (v2.length + y2_0.length) (v2.length + y2_0.length)), some (vs 0 o0 n2 n3), some (vi (n2 : Int)), some (vi (((v6 + 1) : Nat) : Int))]) (bl := [some (.ro O0), some (.cells (Zc (Ze .u8) (v2 ++ y2_0)) 5)]) (ob := [((IntKind.i64.wrap ((v6 : Int) + (1 : Int))) == (((v6 + 1) : Nat) : Int), true), (dP ((y2_0.length = y2_0.length ∧ Z4 (y2_0.length * 1) (List.drop 0 (Zc (Ze .u8) y2_0)) = some (Zc (Ze .u8) y2_0) ∧ ZV Zbd (Zc (Ze .u8) y2_0) = true) ∧ 0 < y2_0.length ∧ y2_0.length ≤ 100000 ∧ v2.length < v2.length + y2_0.length ∧ v2.length ≤ 100000 ∧ v2.length * 1 ≤ (List.length (Zc (Ze .u8) v2)) ∧ List.take (v2.length * 1) (Zc (Ze .u8) v2) ++ (Zc (Ze .u8) y2_0) = (Zc (Ze .u8) (v2 ++ y2_0))), true), (dP (Zhm #[Value.agg #[vi (L1.getD v6 R_iiii.z).a0, vi (L1.getD v6 R_iiii.z).a1, vi (L1.getD v6 R_iiii.z).a2, vi (L1.getD v6 R_iiii.z).a3]] ((L1.getD v6 R_iiii.z).a0) ((L1.getD v6 R_iiii.z).a1) ((L1.getD v6 R_iiii.z).a2) ((L1.getD v6 R_iiii.z).a3)  y2_0  3), true), (Zan (Za1 O0 (o0 + (v6 * 4)) 4) [.i (L1.getD v6 R_iiii.z).a0, .i (L1.getD v6 R_iiii.z).a1, .i (L1.getD v6 R_iiii.z).a2, .i (L1.getD v6 R_iiii.z).a3], true), (Nat.blt v6 n2, true), ((v6 : Int) == Int.ofNat v6, true), ((decide ((v6 : Int) < (n2 : Int))), true)]) rfl (show 1 ∈ Zq (ZiO 1) from by decide +kernel) (fun gv => by kernel_rfl) (Za (beq_iff_eq.2 ((wrap_i64 ltA).trans (by first | rfl | omega))) <| Za (Zg ⟨⟨rfl, (ZnJ (E := (Ze .u8)) (L := y2_0) (a := 0) (n := y2_0.length) (by omega) (by show _ = _ * 1; omega) (show _ = _ * 1 from rfl) (by rw [List.drop_zero, List.take_of_length_le (by omega)]))⟩, by omega, by omega, ltA, by omega, (Zci (E := (Ze .u8)) (L := v2) (M := y2_0) (n := v2.length) (show _ = _ * 1 from rfl) (by omega) (R := (v2 ++ y2_0)) (by rw [List.take_of_length_le (by omega)]))⟩) <| Za (Zg (Zkx #[Value.agg #[vi (L1.getD v6 R_iiii.z).a0, vi (L1.getD v6 R_iiii.z).a1, vi (L1.getD v6 R_iiii.z).a2, vi (L1.getD v6 R_iiii.z).a3]] ((L1.getD v6 R_iiii.z).a0) ((L1.getD v6 R_iiii.z).a1) ((L1.getD v6 R_iiii.z).a2) ((L1.getD v6 R_iiii.z).a3)  y2_0 N c2  3 rfl (by decide) (by decide))) <| Za ((show (o0 + v6 * 4 + 0) = (o0 + (v6 * 4)) from by omega) ▸ F0 v6 (by omega) 0 4 (show 0 + 4 ≤ 4 from by decide)) <| oB <| oI <| oY Zb) rfl (by decide) (by rfl) (fun _ => ⟨⟨Eq.trans (show (vs 1 0 (v2 ++ y2_0).length (v2 ++ y2_0).length : Value) = vs 1 0 (v2.length + y2_0.length) (v2.length + y2_0.length) from (Z2 rfl eqA eqA)) (by rfl), by rfl⟩, ⟨rr, ⟨rr, ⟨rr, trivial⟩⟩⟩⟩) ⟨rfl, ⟨(Zn (E := (Ze .u8)) (α := Int) _ (v2 ++ y2_0) _), trivial⟩⟩
       ·
        exact Mach.ok_none
      ·
       exact Mach.ok_none
     ·
      exact Mach.ok_none
  ·
   exact Mach.ok_none
 ·
  refine Mach.ok_bind (fun z1 c1 => ?_)
  cases z1 with
  | r0 y1_0 =>
   refine Mach.ok_ite (fun g2 => ?_) (fun g2 => ?_)
   ·
    exact Mach.ok_fin (M := ZbP o0 L1 n2 n3 O0 N) (cd := 1000000) (cm := 0) (r := (.r1 ((v2 ++ ([y1_0] : List Int))) : Zb0)) (fu := 4000) (orc := (Zh [(0, false)] [] [] [] [(0, (Zpz (v2)  y1_0 1 2)), (1, .ap 1 [Value.int .u8 y1_0] (Zc (Ze .u8) (v2 ++ ([y1_0] : List Int))))])) (live := [0, 3]) (u := Value.tuple #[vs 3 0 (v2.length + 1) (v2.length + 1), vq]) (bl := [some (.ro O0), some (.cells (Zc (Ze .u8) (v2 ++ ([y1_0] : List Int))) 5)]) (ob := [(dP ((1 = 1 ∧ Z4 (1 * 1) (List.drop 0 [Value.int .u8 y1_0]) = some [Value.int .u8 y1_0] ∧ ZV Zbd [Value.int .u8 y1_0] = true) ∧ 0 < 1 ∧ 1 ≤ 100000 ∧ v2.length < v2.length + 1 ∧ v2.length ≤ 100000 ∧ v2.length * 1 ≤ (List.length (Zc (Ze .u8) v2)) ∧ List.take (v2.length * 1) (Zc (Ze .u8) v2) ++ [Value.int .u8 y1_0] = (Zc (Ze .u8) (v2 ++ ([y1_0] : List Int)))), true), (dP (Zlk #[vs 1 0 v2.length v2.length] (v2)  y1_0 1 2), true), (dS (Zc (Ze .u8) v2), true), ((decide ((v6 : Int) < (n2 : Int))), false)]) (fun gv => by kernel_rfl) (Za (Zg ⟨⟨rfl, ⟨rfl, rfl⟩⟩, by omega, by omega, ltA, by omega, (Zci (E := (Ze .u8)) (L := v2) (M := ([y1_0] : List Int)) (n := v2.length) (show _ = _ * 1 from rfl) (by omega) (R := (v2 ++ ([y1_0] : List Int))) (by rw [List.take_of_length_le (by omega)]))⟩) <| Za (Zg (Zp0 #[vs 1 0 v2.length v2.length] (v2)  y1_0 N c1 1 2 rfl (by decide) (by decide))) <| oR <| oN Zb) rfl (by decide) (by rfl) ⟨Eq.trans (show (Value.tuple #[vs 1 0 (v2 ++ ([y1_0] : List Int)).length (v2 ++ ([y1_0] : List Int)).length, vq] : Value) = Value.tuple #[vs 1 0 (v2.length + 1) (v2.length + 1), vq] from (ZaD (Zf (Z2 rfl eqA eqA) (Zf rfl rfl)))) (by rfl), by rfl⟩ ⟨rfl, ⟨(Zn (E := (Ze .u8)) (α := Int) _ (v2 ++ ([y1_0] : List Int)) _), trivial⟩⟩
   ·
    exact Mach.ok_none

theorem Zqf (o0 : Nat) (L1 : List R_iiii) (n2 n3 : Nat) (O0 : Obj) (F0 : Zbk O0 o0 L1) (N : Nat) : (ZbP o0 L1 n2 n3 O0 N).Enter Try.prog Zj #[vs 0 o0 n2 n3] (Zgp L1 n2 n3 N) := by
 unfold Zgp
 refine Mach.en_ite (fun g0 => ?_) (fun g0 => ?_)
 ·
  exact Mach.en_fin (M := ZbP o0 L1 n2 n3 O0 N) (cd := 1000000) (cm := 0) (r := (.r0 ((3 : Int)) : Zb0)) (fu := 4000) (orc := (Zh [(0, true)] [] [] [] [])) (live := [0]) (u := Value.tuple #[vn, vi (3 : Int)]) (bl := [some (.ro O0)]) (ob := [((decide ((n2 : Int) > (512 : Int))), true)]) (by kernel_rfl) (oY Zb) rfl (by decide) (by rfl) rr ⟨rfl, trivial⟩
 ·
  exact Mach.en_head (bK := ZeX 1) (M := ZbP o0 L1 n2 n3 O0 N) (cd := 1000000) (cm := 0) (y := (.h1m0 (([(71 : Int), (78 : Int), (84 : Int), (1 : Int), ((n2 : Int) / (256 : Int)), (IntKind.u8.wrap (n2 : Int))] : List Int)) (0) : ZaK)) (fu := 4000) (orc := (Zh [(0, false)] [(0, ((n2 : Int) / (256 : Int))), (1, ((n2 : Int) / (256 : Int)))] [] [] [])) (live := [0, 3]) (tv := [some (vs 3 0 6 6), some (vs 0 o0 n2 n3), some (vi (n2 : Int)), some (vq)]) (bl := [some (.ro O0), some (.cells [Value.int .u8 (71 : Int), Value.int .u8 (78 : Int), Value.int .u8 (84 : Int), Value.int .u8 (1 : Int), Value.int .u8 ((n2 : Int) / (256 : Int)), Value.int .u8 (IntKind.u8.wrap (n2 : Int))] 5)]) (ob := [((IntKind.u8.wrap ((n2 : Int) / (256 : Int))) == ((n2 : Int) / (256 : Int)), true), ((Int.fdiv (n2 : Int) (2 ^ 8 : Int)) == ((n2 : Int) / (256 : Int)), true), ((decide ((n2 : Int) > (512 : Int))), false)]) rfl rfl (show Zq (ZeX 1).2 = [] from rfl) (by kernel_rfl) (Za (beq_iff_eq.2 (ZK ltA)) <| Za (beq_iff_eq.2 (Int.fdiv_eq_ediv_of_nonneg _ (by decide))) <| oN Zb) rfl (by decide) (by rfl) ⟨⟨Eq.trans (show (vs 1 0 ([(71 : Int), (78 : Int), (84 : Int), (1 : Int), ((n2 : Int) / (256 : Int)), (IntKind.u8.wrap (n2 : Int))] : List Int).length ([(71 : Int), (78 : Int), (84 : Int), (1 : Int), ((n2 : Int) / (256 : Int)), (IntKind.u8.wrap (n2 : Int))] : List Int).length : Value) = vs 1 0 6 6 from (Z2 rfl eqA eqA)) (by rfl), by rfl⟩, ⟨rr, ⟨rr, ⟨⟨Eq.trans (show (vi ((0 : Nat) : Int) : Value) = vq from (congrArg (Value.int .i64) (by first | rfl | omega))) (by rfl), by rfl⟩, trivial⟩⟩⟩⟩ ⟨rfl, ⟨(Zaq (E := (Ze .u8)) _ (L := ([(71 : Int), (78 : Int), (84 : Int), (1 : Int), ((n2 : Int) / (256 : Int)), (IntKind.u8.wrap (n2 : Int))] : List Int)) _ (show ([Value.int .u8 (71 : Int), Value.int .u8 (78 : Int), Value.int .u8 (84 : Int), Value.int .u8 (1 : Int), Value.int .u8 ((n2 : Int) / (256 : Int)), Value.int .u8 (IntKind.u8.wrap (n2 : Int))] : List Value) = Zc (Ze .u8) ([(71 : Int), (78 : Int), (84 : Int), (1 : Int), ((n2 : Int) / (256 : Int)), (IntKind.u8.wrap (n2 : Int))] : List Int) from rfl)), trivial⟩⟩

theorem ZiP (o0 : Nat) (L1 : List R_iiii) (n2 n3 : Nat) (O0 : Obj) (F0 : Zbk O0 o0 L1) (N : Nat) (r : Zb0) (h : Zc9 L1 n2 n3 N = some r) : LSpec Try.prog 7 #[vs 0 o0 n2 n3] [.ro O0] (ZmV o0 L1 n2 n3 O0 r) (ZlJ o0 L1 n2 n3 O0 r) :=
 Mach.spec ZaR (ZbP o0 L1 n2 n3 O0 N) Try.func7 (by kernel_rfl) (by kernel_rfl) (fun x => by cases x <;> exact Zal _ rfl) (fun r => by cases r <;> exact Zal _ rfl) (fun x => by
  cases x with
  | h1m0 _ _ => exact fun _ => (show ¬ (1 ∈ Zq (ZeX 1).2) from by decide +kernel)
  ) (fun x => (show (ZbP o0 L1 n2 n3 O0 N).Ok Try.prog Zj x (Zc2 L1 n2 n3 N x) from by
  cases x with
  | h1m0 v2 v6 => exact ZnQ o0 L1 n2 n3 O0 F0 v2 v6 N
  )) (Zqf o0 L1 n2 n3 O0 F0 N) (n := N) h

noncomputable def ZlL (o0 : Nat) (L1 : List R_iiii) (n2 n3 : Nat) (O0 : Obj) (w2 : Int) (k0 n : Nat) : Za4 := .call [(k0, .ro O0)] (Value.tuple #[vn, vi w2]) [] 0
def ZhQ (A : Array Value) (o0 : Nat) (L1 : List R_iiii) (n2 n3 : Nat) (O0 : Obj) (w2 : Int) (k0 n : Nat) : Prop := ZB Try.prog 7 A [(k0, .ro O0)] (Value.tuple #[vn, vi w2]) [] n 0

theorem ZlM (A : Array Value) (o0 : Nat) (L1 : List R_iiii) (n2 n3 : Nat) (O0 : Obj) (F0 : Zbk O0 o0 L1) (w2 : Int) (N : Nat) (h : Zc9 L1 n2 n3 N = some (.r0 w2)) (k0 n : Nat) (hA : A = #[vs k0 o0 n2 n3]) (hnd : ([k0] : List Nat).Nodup) (hlt : ∀ k ∈ ([k0] : List Nat), k < n) : ZhQ A o0 L1 n2 n3 O0 w2 k0 n :=
 ZQ hA (LSpec.callL (show LSpec Try.prog 7 #[vs 0 o0 n2 n3] [.ro O0] (Value.tuple #[vn, vi w2]) [some (.ro O0)] from ZiP o0 L1 n2 n3 O0 F0 N _ h) [k0] n [] rfl hnd hlt (show 1 ≤ 1 from by decide) (show ∀ j ∈ ([] : List Nat), j < 1 from by decide) (by rfl) ⟨rfl, trivial⟩ (by rfl) ⟨rfl, trivial⟩ ⟨.inr rfl, trivial⟩ rfl rfl rfl (Zf (ZaJ rfl rfl) rfl) rfl)

noncomputable def ZlN (o0 : Nat) (L1 : List R_iiii) (n2 n3 : Nat) (O0 : Obj) (w2 : List Int) (k0 n : Nat) : Za4 := .call [(k0, .ro O0)] (Value.tuple #[vs n 0 w2.length w2.length, vq]) [(n, some (.cells (Zc (Ze .u8) w2) 5))] 1
def ZhR (A : Array Value) (o0 : Nat) (L1 : List R_iiii) (n2 n3 : Nat) (O0 : Obj) (w2 : List Int) (k0 n : Nat) : Prop := ZB Try.prog 7 A [(k0, .ro O0)] (Value.tuple #[vs n 0 w2.length w2.length, vq]) [(n, some (.cells (Zc (Ze .u8) w2) 5))] n 1

theorem ZlO (A : Array Value) (o0 : Nat) (L1 : List R_iiii) (n2 n3 : Nat) (O0 : Obj) (F0 : Zbk O0 o0 L1) (w2 : List Int) (N : Nat) (h : Zc9 L1 n2 n3 N = some (.r1 w2)) (k0 n : Nat) (hA : A = #[vs k0 o0 n2 n3]) (hnd : ([k0] : List Nat).Nodup) (hlt : ∀ k ∈ ([k0] : List Nat), k < n) : ZhR A o0 L1 n2 n3 O0 w2 k0 n :=
 ZQ hA (LSpec.callL (show LSpec Try.prog 7 #[vs 0 o0 n2 n3] [.ro O0] (Value.tuple #[vs 1 0 w2.length w2.length, vq]) [some (.ro O0), some (.cells (Zc (Ze .u8) w2) 5)] from ZiP o0 L1 n2 n3 O0 F0 N _ h) [k0] n [1] rfl hnd hlt (show 1 ≤ 2 from by decide) (show ∀ j ∈ ([1] : List Nat), j < 2 from by decide) (by rfl) ⟨rfl, trivial⟩ (by rfl) ⟨rfl, ⟨(ZaE _ _ _), trivial⟩⟩ ⟨.inr rfl, ⟨(by decide), trivial⟩⟩ rfl rfl rfl (Zf (ZaJ rfl rfl) rfl) (Zf (ZaJ rfl (ZeN (ZbJ _ _ _))) rfl))

noncomputable def Zp1 (a0 : Int) : ZL → Value
 | .r0 w0 w1 w2 w3 => Value.tuple #[Value.agg #[vi w0, vi w1, vi w2], Value.bool w3]
noncomputable def Zor (a0 : Int) : ZL → List (Option AObj)
 | .r0 w0 w1 w2 w3 => []

theorem ZsK (a0 : Int) (N : Nat) : Fx Try.prog Zj Try.f26 [] #[vi a0] (Zp1 a0) (Zor a0) (Zc3 a0 N) := by
 unfold Zc3
 refine Zl (fun g0 => ?_) (fun g0 => ?_)
 ·
  exact Zk (r := (.r0 ((1 : Int)) ((2 : Int)) ((0 : Int)) (true) : ZL)) (fu := 4000) (orc := (Zh [(0, true)] [] [] [] [])) (live := []) (u := Value.tuple #[Value.agg #[vi (1 : Int), vi (2 : Int), vq], vT]) (bl := []) (ob := [((a0 == (1 : Int)), true)]) (by kernel_rfl) (oT Zb) rfl (by decide) (by rfl) rr trivial
 ·
  refine Zl (fun g1 => ?_) (fun g1 => ?_)
  ·
   exact Zk (r := (.r0 ((1 : Int)) ((0 : Int)) ((0 : Int)) (true) : ZL)) (fu := 4000) (orc := (Zh [(0, false), (1, true)] [] [] [] [])) (live := []) (u := Value.tuple #[Value.agg #[vi (1 : Int), vq, vq], vT]) (bl := []) (ob := [((a0 == (2 : Int)), true), ((a0 == (1 : Int)), false)]) (by kernel_rfl) (oT <| oF Zb) rfl (by decide) (by rfl) rr trivial
  ·
   refine Zl (fun g2 => ?_) (fun g2 => ?_)
   ·
    exact Zk (r := (.r0 ((1 : Int)) ((0 : Int)) ((0 : Int)) (true) : ZL)) (fu := 4000) (orc := (Zh [(0, false), (1, false), (2, true)] [] [] [] [])) (live := []) (u := Value.tuple #[Value.agg #[vi (1 : Int), vq, vq], vT]) (bl := []) (ob := [((a0 == (10 : Int)), true), ((a0 == (2 : Int)), false), ((a0 == (1 : Int)), false)]) (by kernel_rfl) (oT <| oF <| oF Zb) rfl (by decide) (by rfl) rr trivial
   ·
    refine Zl (fun g3 => ?_) (fun g3 => ?_)
    ·
     exact Zk (r := (.r0 ((1 : Int)) ((0 : Int)) ((0 : Int)) (true) : ZL)) (fu := 4000) (orc := (Zh [(0, false), (1, false), (2, false), (3, true)] [] [] [] [])) (live := []) (u := Value.tuple #[Value.agg #[vi (1 : Int), vq, vq], vT]) (bl := []) (ob := [((a0 == (12 : Int)), true), ((a0 == (10 : Int)), false), ((a0 == (2 : Int)), false), ((a0 == (1 : Int)), false)]) (by kernel_rfl) (oT <| oF <| oF <| oF Zb) rfl (by decide) (by rfl) rr trivial
    ·
     refine Zl (fun g4 => ?_) (fun g4 => ?_)
     ·
      exact Zk (r := (.r0 ((1 : Int)) ((0 : Int)) ((0 : Int)) (true) : ZL)) (fu := 4000) (orc := (Zh [(0, false), (1, false), (2, false), (3, false), (4, true)] [] [] [] [])) (live := []) (u := Value.tuple #[Value.agg #[vi (1 : Int), vq, vq], vT]) (bl := []) (ob := [((a0 == (19 : Int)), true), ((a0 == (12 : Int)), false), ((a0 == (10 : Int)), false), ((a0 == (2 : Int)), false), ((a0 == (1 : Int)), false)]) (by kernel_rfl) (oT <| oF <| oF <| oF <| oF Zb) rfl (by decide) (by rfl) rr trivial
     ·
      refine Zl (fun g5 => ?_) (fun g5 => ?_)
      ·
       exact Zk (r := (.r0 ((1 : Int)) ((1 : Int)) ((0 : Int)) (true) : ZL)) (fu := 4000) (orc := (Zh [(0, false), (1, false), (2, false), (3, false), (4, false), (5, true)] [] [] [] [])) (live := []) (u := Value.tuple #[Value.agg #[vi (1 : Int), vi (1 : Int), vq], vT]) (bl := []) (ob := [((a0 == (3 : Int)), true), ((a0 == (19 : Int)), false), ((a0 == (12 : Int)), false), ((a0 == (10 : Int)), false), ((a0 == (2 : Int)), false), ((a0 == (1 : Int)), false)]) (by kernel_rfl) (oT <| oF <| oF <| oF <| oF <| oF Zb) rfl (by decide) (by rfl) rr trivial
      ·
       refine Zl (fun g6 => ?_) (fun g6 => ?_)
       ·
        exact Zk (r := (.r0 ((1 : Int)) ((1 : Int)) ((1 : Int)) (true) : ZL)) (fu := 4000) (orc := (Zh [(0, false), (1, false), (2, false), (3, false), (4, false), (5, false), (6, true)] [] [] [] [])) (live := []) (u := Value.tuple #[Value.agg #[vi (1 : Int), vi (1 : Int), vi (1 : Int)], vT]) (bl := []) (ob := [((a0 == (4 : Int)), true), ((a0 == (3 : Int)), false), ((a0 == (19 : Int)), false), ((a0 == (12 : Int)), false), ((a0 == (10 : Int)), false), ((a0 == (2 : Int)), false), ((a0 == (1 : Int)), false)]) (by kernel_rfl) (oT <| oF <| oF <| oF <| oF <| oF <| oF Zb) rfl (by decide) (by rfl) rr trivial
       ·
        refine Zl (fun g7 => ?_) (fun g7 => ?_)
        ·
         exact Zk (r := (.r0 ((1 : Int)) ((1 : Int)) ((1 : Int)) (true) : ZL)) (fu := 4000) (orc := (Zh [(0, false), (1, false), (2, false), (3, false), (4, false), (5, false), (6, false), (7, true)] [] [] [] [])) (live := []) (u := Value.tuple #[Value.agg #[vi (1 : Int), vi (1 : Int), vi (1 : Int)], vT]) (bl := []) (ob := [((a0 == (5 : Int)), true), ((a0 == (4 : Int)), false), ((a0 == (3 : Int)), false), ((a0 == (19 : Int)), false), ((a0 == (12 : Int)), false), ((a0 == (10 : Int)), false), ((a0 == (2 : Int)), false), ((a0 == (1 : Int)), false)]) (by kernel_rfl) (oT <| oF <| oF <| oF <| oF <| oF <| oF <| oF Zb) rfl (by decide) (by rfl) rr trivial
        ·
         refine Zl (fun g8 => ?_) (fun g8 => ?_)
         ·
          exact Zk (r := (.r0 ((1 : Int)) ((1 : Int)) ((1 : Int)) (true) : ZL)) (fu := 4000) (orc := (Zh [(0, false), (1, false), (2, false), (3, false), (4, false), (5, false), (6, false), (7, false), (8, true)] [] [] [] [])) (live := []) (u := Value.tuple #[Value.agg #[vi (1 : Int), vi (1 : Int), vi (1 : Int)], vT]) (bl := []) (ob := [((a0 == (6 : Int)), true), ((a0 == (5 : Int)), false), ((a0 == (4 : Int)), false), ((a0 == (3 : Int)), false), ((a0 == (19 : Int)), false), ((a0 == (12 : Int)), false), ((a0 == (10 : Int)), false), ((a0 == (2 : Int)), false), ((a0 == (1 : Int)), false)]) (by kernel_rfl) (oT <| oF <| oF <| oF <| oF <| oF <| oF <| oF <| oF Zb) rfl (by decide) (by rfl) rr trivial
         ·
          refine Zl (fun g9 => ?_) (fun g9 => ?_)
          ·
           exact Zk (r := (.r0 ((1 : Int)) ((1 : Int)) ((1 : Int)) (true) : ZL)) (fu := 4000) (orc := (Zh [(0, false), (1, false), (2, false), (3, false), (4, false), (5, false), (6, false), (7, false), (8, false), (9, true)] [] [] [] [])) (live := []) (u := Value.tuple #[Value.agg #[vi (1 : Int), vi (1 : Int), vi (1 : Int)], vT]) (bl := []) (ob := [((a0 == (7 : Int)), true), ((a0 == (6 : Int)), false), ((a0 == (5 : Int)), false), ((a0 == (4 : Int)), false), ((a0 == (3 : Int)), false), ((a0 == (19 : Int)), false), ((a0 == (12 : Int)), false), ((a0 == (10 : Int)), false), ((a0 == (2 : Int)), false), ((a0 == (1 : Int)), false)]) (by kernel_rfl) (oT <| oF <| oF <| oF <| oF <| oF <| oF <| oF <| oF <| oF Zb) rfl (by decide) (by rfl) rr trivial
          ·
           refine Zl (fun g10 => ?_) (fun g10 => ?_)
           ·
            exact Zk (r := (.r0 ((3 : Int)) ((0 : Int)) ((0 : Int)) (true) : ZL)) (fu := 4000) (orc := (Zh [(0, false), (1, false), (2, false), (3, false), (4, false), (5, false), (6, false), (7, false), (8, false), (9, false), (10, true)] [] [] [] [])) (live := []) (u := Value.tuple #[Value.agg #[vi (3 : Int), vq, vq], vT]) (bl := []) (ob := [((a0 == (8 : Int)), true), ((a0 == (7 : Int)), false), ((a0 == (6 : Int)), false), ((a0 == (5 : Int)), false), ((a0 == (4 : Int)), false), ((a0 == (3 : Int)), false), ((a0 == (19 : Int)), false), ((a0 == (12 : Int)), false), ((a0 == (10 : Int)), false), ((a0 == (2 : Int)), false), ((a0 == (1 : Int)), false)]) (by kernel_rfl) (oT <| oF <| oF <| oF <| oF <| oF <| oF <| oF <| oF <| oF <| oF Zb) rfl (by decide) (by rfl) rr trivial
           ·
            refine Zl (fun g11 => ?_) (fun g11 => ?_)
            ·
             exact Zk (r := (.r0 ((1 : Int)) ((3 : Int)) ((0 : Int)) (true) : ZL)) (fu := 4000) (orc := (Zh [(0, false), (1, false), (2, false), (3, false), (4, false), (5, false), (6, false), (7, false), (8, false), (9, false), (10, false), (11, true)] [] [] [] [])) (live := []) (u := Value.tuple #[Value.agg #[vi (1 : Int), vi (3 : Int), vq], vT]) (bl := []) (ob := [((a0 == (9 : Int)), true), ((a0 == (8 : Int)), false), ((a0 == (7 : Int)), false), ((a0 == (6 : Int)), false), ((a0 == (5 : Int)), false), ((a0 == (4 : Int)), false), ((a0 == (3 : Int)), false), ((a0 == (19 : Int)), false), ((a0 == (12 : Int)), false), ((a0 == (10 : Int)), false), ((a0 == (2 : Int)), false), ((a0 == (1 : Int)), false)]) (by kernel_rfl) (oT <| oF <| oF <| oF <| oF <| oF <| oF <| oF <| oF <| oF <| oF <| oF Zb) rfl (by decide) (by rfl) rr trivial
            ·
             refine Zl (fun g12 => ?_) (fun g12 => ?_)
             ·
              exact Zk (r := (.r0 ((1 : Int)) ((5 : Int)) ((6 : Int)) (true) : ZL)) (fu := 4000) (orc := (Zh [(0, false), (1, false), (2, false), (3, false), (4, false), (5, false), (6, false), (7, false), (8, false), (9, false), (10, false), (11, false), (12, true)] [] [] [] [])) (live := []) (u := Value.tuple #[Value.agg #[vi (1 : Int), vi (5 : Int), vi (6 : Int)], vT]) (bl := []) (ob := [((a0 == (11 : Int)), true), ((a0 == (9 : Int)), false), ((a0 == (8 : Int)), false), ((a0 == (7 : Int)), false), ((a0 == (6 : Int)), false), ((a0 == (5 : Int)), false), ((a0 == (4 : Int)), false), ((a0 == (3 : Int)), false), ((a0 == (19 : Int)), false), ((a0 == (12 : Int)), false), ((a0 == (10 : Int)), false), ((a0 == (2 : Int)), false), ((a0 == (1 : Int)), false)]) (by kernel_rfl) (oT <| oF <| oF <| oF <| oF <| oF <| oF <| oF <| oF <| oF <| oF <| oF <| oF Zb) rfl (by decide) (by rfl) rr trivial
             ·
              refine Zl (fun g13 => ?_) (fun g13 => ?_)
              ·
               exact Zk (r := (.r0 ((1 : Int)) ((1 : Int)) ((4 : Int)) (true) : ZL)) (fu := 4000) (orc := (Zh [(0, false), (1, false), (2, false), (3, false), (4, false), (5, false), (6, false), (7, false), (8, false), (9, false), (10, false), (11, false), (12, false), (13, true)] [] [] [] [])) (live := []) (u := Value.tuple #[Value.agg #[vi (1 : Int), vi (1 : Int), vi (4 : Int)], vT]) (bl := []) (ob := [((a0 == (13 : Int)), true), ((a0 == (11 : Int)), false), ((a0 == (9 : Int)), false), ((a0 == (8 : Int)), false), ((a0 == (7 : Int)), false), ((a0 == (6 : Int)), false), ((a0 == (5 : Int)), false), ((a0 == (4 : Int)), false), ((a0 == (3 : Int)), false), ((a0 == (19 : Int)), false), ((a0 == (12 : Int)), false), ((a0 == (10 : Int)), false), ((a0 == (2 : Int)), false), ((a0 == (1 : Int)), false)]) (by kernel_rfl) (oT <| oF <| oF <| oF <| oF <| oF <| oF <| oF <| oF <| oF <| oF <| oF <| oF <| oF Zb) rfl (by decide) (by rfl) rr trivial
              ·
               refine Zl (fun g14 => ?_) (fun g14 => ?_)
               ·
                exact Zk (r := (.r0 ((1 : Int)) ((4 : Int)) ((1 : Int)) (true) : ZL)) (fu := 4000) (orc := (Zh [(0, false), (1, false), (2, false), (3, false), (4, false), (5, false), (6, false), (7, false), (8, false), (9, false), (10, false), (11, false), (12, false), (13, false), (14, true)] [] [] [] [])) (live := []) (u := Value.tuple #[Value.agg #[vi (1 : Int), vi (4 : Int), vi (1 : Int)], vT]) (bl := []) (ob := [((a0 == (14 : Int)), true), ((a0 == (13 : Int)), false), ((a0 == (11 : Int)), false), ((a0 == (9 : Int)), false), ((a0 == (8 : Int)), false), ((a0 == (7 : Int)), false), ((a0 == (6 : Int)), false), ((a0 == (5 : Int)), false), ((a0 == (4 : Int)), false), ((a0 == (3 : Int)), false), ((a0 == (19 : Int)), false), ((a0 == (12 : Int)), false), ((a0 == (10 : Int)), false), ((a0 == (2 : Int)), false), ((a0 == (1 : Int)), false)]) (by kernel_rfl) (oT <| oF <| oF <| oF <| oF <| oF <| oF <| oF <| oF <| oF <| oF <| oF <| oF <| oF <| oF Zb) rfl (by decide) (by rfl) rr trivial
               ·
                refine Zl (fun g15 => ?_) (fun g15 => ?_)
                ·
                 exact Zk (r := (.r0 ((0 : Int)) ((0 : Int)) ((0 : Int)) (true) : ZL)) (fu := 4000) (orc := (Zh [(0, false), (1, false), (2, false), (3, false), (4, false), (5, false), (6, false), (7, false), (8, false), (9, false), (10, false), (11, false), (12, false), (13, false), (14, false), (15, true)] [] [] [] [])) (live := []) (u := Value.tuple #[Value.agg #[vq, vq, vq], vT]) (bl := []) (ob := [((a0 == (15 : Int)), true), ((a0 == (14 : Int)), false), ((a0 == (13 : Int)), false), ((a0 == (11 : Int)), false), ((a0 == (9 : Int)), false), ((a0 == (8 : Int)), false), ((a0 == (7 : Int)), false), ((a0 == (6 : Int)), false), ((a0 == (5 : Int)), false), ((a0 == (4 : Int)), false), ((a0 == (3 : Int)), false), ((a0 == (19 : Int)), false), ((a0 == (12 : Int)), false), ((a0 == (10 : Int)), false), ((a0 == (2 : Int)), false), ((a0 == (1 : Int)), false)]) (by kernel_rfl) (oT <| oF <| oF <| oF <| oF <| oF <| oF <| oF <| oF <| oF <| oF <| oF <| oF <| oF <| oF <| oF Zb) rfl (by decide) (by rfl) rr trivial
                ·
                 refine Zl (fun g16 => ?_) (fun g16 => ?_)
                 ·
                  exact Zk (r := (.r0 ((0 : Int)) ((0 : Int)) ((0 : Int)) (true) : ZL)) (fu := 4000) (orc := (Zh [(0, false), (1, false), (2, false), (3, false), (4, false), (5, false), (6, false), (7, false), (8, false), (9, false), (10, false), (11, false), (12, false), (13, false), (14, false), (15, false), (16, true)] [] [] [] [])) (live := []) (u := Value.tuple #[Value.agg #[vq, vq, vq], vT]) (bl := []) (ob := [((a0 == (16 : Int)), true), ((a0 == (15 : Int)), false), ((a0 == (14 : Int)), false), ((a0 == (13 : Int)), false), ((a0 == (11 : Int)), false), ((a0 == (9 : Int)), false), ((a0 == (8 : Int)), false), ((a0 == (7 : Int)), false), ((a0 == (6 : Int)), false), ((a0 == (5 : Int)), false), ((a0 == (4 : Int)), false), ((a0 == (3 : Int)), false), ((a0 == (19 : Int)), false), ((a0 == (12 : Int)), false), ((a0 == (10 : Int)), false), ((a0 == (2 : Int)), false), ((a0 == (1 : Int)), false)]) (by kernel_rfl) (oT <| oF <| oF <| oF <| oF <| oF <| oF <| oF <| oF <| oF <| oF <| oF <| oF <| oF <| oF <| oF <| oF Zb) rfl (by decide) (by rfl) rr trivial
                 ·
                  refine Zl (fun g17 => ?_) (fun g17 => ?_)
                  ·
                   exact Zk (r := (.r0 ((0 : Int)) ((0 : Int)) ((0 : Int)) (true) : ZL)) (fu := 4000) (orc := (Zh [(0, false), (1, false), (2, false), (3, false), (4, false), (5, false), (6, false), (7, false), (8, false), (9, false), (10, false), (11, false), (12, false), (13, false), (14, false), (15, false), (16, false), (17, true)] [] [] [] [])) (live := []) (u := Value.tuple #[Value.agg #[vq, vq, vq], vT]) (bl := []) (ob := [((a0 == (17 : Int)), true), ((a0 == (16 : Int)), false), ((a0 == (15 : Int)), false), ((a0 == (14 : Int)), false), ((a0 == (13 : Int)), false), ((a0 == (11 : Int)), false), ((a0 == (9 : Int)), false), ((a0 == (8 : Int)), false), ((a0 == (7 : Int)), false), ((a0 == (6 : Int)), false), ((a0 == (5 : Int)), false), ((a0 == (4 : Int)), false), ((a0 == (3 : Int)), false), ((a0 == (19 : Int)), false), ((a0 == (12 : Int)), false), ((a0 == (10 : Int)), false), ((a0 == (2 : Int)), false), ((a0 == (1 : Int)), false)]) (by kernel_rfl) (oT <| oF <| oF <| oF <| oF <| oF <| oF <| oF <| oF <| oF <| oF <| oF <| oF <| oF <| oF <| oF <| oF <| oF Zb) rfl (by decide) (by rfl) rr trivial
                  ·
                   refine Zl (fun g18 => ?_) (fun g18 => ?_)
                   ·
                    exact Zk (r := (.r0 ((0 : Int)) ((0 : Int)) ((0 : Int)) (true) : ZL)) (fu := 4000) (orc := (Zh [(0, false), (1, false), (2, false), (3, false), (4, false), (5, false), (6, false), (7, false), (8, false), (9, false), (10, false), (11, false), (12, false), (13, false), (14, false), (15, false), (16, false), (17, false), (18, true)] [] [] [] [])) (live := []) (u := Value.tuple #[Value.agg #[vq, vq, vq], vT]) (bl := []) (ob := [((a0 == (18 : Int)), true), ((a0 == (17 : Int)), false), ((a0 == (16 : Int)), false), ((a0 == (15 : Int)), false), ((a0 == (14 : Int)), false), ((a0 == (13 : Int)), false), ((a0 == (11 : Int)), false), ((a0 == (9 : Int)), false), ((a0 == (8 : Int)), false), ((a0 == (7 : Int)), false), ((a0 == (6 : Int)), false), ((a0 == (5 : Int)), false), ((a0 == (4 : Int)), false), ((a0 == (3 : Int)), false), ((a0 == (19 : Int)), false), ((a0 == (12 : Int)), false), ((a0 == (10 : Int)), false), ((a0 == (2 : Int)), false), ((a0 == (1 : Int)), false)]) (by kernel_rfl) (oT <| oF <| oF <| oF <| oF <| oF <| oF <| oF <| oF <| oF <| oF <| oF <| oF <| oF <| oF <| oF <| oF <| oF <| oF Zb) rfl (by decide) (by rfl) rr trivial
                   ·
                    refine Zl (fun g19 => ?_) (fun g19 => ?_)
                    ·
                     exact Zk (r := (.r0 ((0 : Int)) ((0 : Int)) ((0 : Int)) (true) : ZL)) (fu := 4000) (orc := (Zh [(0, false), (1, false), (2, false), (3, false), (4, false), (5, false), (6, false), (7, false), (8, false), (9, false), (10, false), (11, false), (12, false), (13, false), (14, false), (15, false), (16, false), (17, false), (18, false), (19, true)] [] [] [] [])) (live := []) (u := Value.tuple #[Value.agg #[vq, vq, vq], vT]) (bl := []) (ob := [((a0 == (20 : Int)), true), ((a0 == (18 : Int)), false), ((a0 == (17 : Int)), false), ((a0 == (16 : Int)), false), ((a0 == (15 : Int)), false), ((a0 == (14 : Int)), false), ((a0 == (13 : Int)), false), ((a0 == (11 : Int)), false), ((a0 == (9 : Int)), false), ((a0 == (8 : Int)), false), ((a0 == (7 : Int)), false), ((a0 == (6 : Int)), false), ((a0 == (5 : Int)), false), ((a0 == (4 : Int)), false), ((a0 == (3 : Int)), false), ((a0 == (19 : Int)), false), ((a0 == (12 : Int)), false), ((a0 == (10 : Int)), false), ((a0 == (2 : Int)), false), ((a0 == (1 : Int)), false)]) (by kernel_rfl) (oT <| oF <| oF <| oF <| oF <| oF <| oF <| oF <| oF <| oF <| oF <| oF <| oF <| oF <| oF <| oF <| oF <| oF <| oF <| oF Zb) rfl (by decide) (by rfl) rr trivial
                    ·
                     exact Zk (r := (.r0 ((0 : Int)) ((0 : Int)) ((0 : Int)) (false) : ZL)) (fu := 4000) (orc := (Zh [(0, false), (1, false), (2, false), (3, false), (4, false), (5, false), (6, false), (7, false), (8, false), (9, false), (10, false), (11, false), (12, false), (13, false), (14, false), (15, false), (16, false), (17, false), (18, false), (19, false)] [] [] [] [])) (live := []) (u := Value.tuple #[Value.agg #[vq, vq, vq], vf]) (bl := []) (ob := [((a0 == (20 : Int)), false), ((a0 == (18 : Int)), false), ((a0 == (17 : Int)), false), ((a0 == (16 : Int)), false), ((a0 == (15 : Int)), false), ((a0 == (14 : Int)), false), ((a0 == (13 : Int)), false), ((a0 == (11 : Int)), false), ((a0 == (9 : Int)), false), ((a0 == (8 : Int)), false), ((a0 == (7 : Int)), false), ((a0 == (6 : Int)), false), ((a0 == (5 : Int)), false), ((a0 == (4 : Int)), false), ((a0 == (3 : Int)), false), ((a0 == (19 : Int)), false), ((a0 == (12 : Int)), false), ((a0 == (10 : Int)), false), ((a0 == (2 : Int)), false), ((a0 == (1 : Int)), false)]) (by kernel_rfl) (oF <| oF <| oF <| oF <| oF <| oF <| oF <| oF <| oF <| oF <| oF <| oF <| oF <| oF <| oF <| oF <| oF <| oF <| oF <| oF Zb) rfl (by decide) (by rfl) rr trivial

theorem Zqg (a0 : Int) (N : Nat) (r : ZL) (h : Zc3 a0 N = some r) : LSpec Try.prog 26 #[vi a0] [] (Zp1 a0 r) (Zor a0 r) :=
 ZdD ZaR Try.func26 (by kernel_rfl) (by kernel_rfl) (fun r => by cases r <;> exact Zal _ rfl) (ZsK a0 N) h

noncomputable def Zd4 (a0 w0 w1 w2 : Int) (w3 : Bool) (n : Nat) : Za4 := .call [] (Value.tuple #[Value.agg #[vi w0, vi w1, vi w2], Value.bool w3]) [] 0
def ZcX (A : Array Value) (a0 w0 w1 w2 : Int) (w3 : Bool) (n : Nat) : Prop := ZB Try.prog 26 A [] (Value.tuple #[Value.agg #[vi w0, vi w1, vi w2], Value.bool w3]) [] n 0

theorem Zd5 (A : Array Value) (a0 w0 w1 w2 : Int) (w3 : Bool) (N : Nat) (h : Zc3 a0 N = some (.r0 w0 w1 w2 w3)) (n : Nat) (hA : A = #[vi a0]) (hnd : ([] : List Nat).Nodup) (hlt : ∀ k ∈ ([] : List Nat), k < n) : ZcX A a0 w0 w1 w2 w3  n :=
 ZQ hA (LSpec.callL (show LSpec Try.prog 26 #[vi a0] [] (Value.tuple #[Value.agg #[vi w0, vi w1, vi w2], Value.bool w3]) [] from Zqg a0 N _ h) [] n [] rfl hnd hlt (show 0 ≤ 0 from by decide) (show ∀ j ∈ ([] : List Nat), j < 0 from by decide) (by rfl) trivial (by rfl) trivial trivial rfl rfl rfl rfl rfl)

noncomputable def Zos (a0 a1 a2 : Int) : ZE → Value
 | .r0 w0 => Value.bool w0
noncomputable def ZmW (a0 a1 a2 : Int) : ZE → List (Option AObj)
 | .r0 w0 => []

theorem Zrt (a0 a1 a2 : Int) (N : Nat) : Fx Try.prog Zj Try.f36 [] #[vi a0, vi a1, vi a2] (Zos a0 a1 a2) (ZmW a0 a1 a2) (Zax a0 a1 a2 N) := by
 unfold Zax
 refine Zl (fun g0 => ?_) (fun g0 => ?_)
 ·
  refine Zl (fun g1 => ?_) (fun g1 => ?_)
  ·
   refine Zl (fun g2 => ?_) (fun g2 => ?_)
   ·
    exact Zk (r := (.r0 (true) : ZE)) (fu := 4000) (orc := (Zh [(0, true), (1, true), (2, true)] [] [] [] [])) (live := []) (u := vT) (bl := []) (ob := [((decide (a1 < (8 : Int))), true), ((decide (a1 ≥ (0 : Int))), true), ((a0 == (1 : Int)), true)]) (by kernel_rfl) (oY <| oY <| oT Zb) rfl (by decide) (by rfl) rr trivial
   ·
    exact Zk (r := (.r0 (false) : ZE)) (fu := 4000) (orc := (Zh [(0, true), (1, true), (2, false)] [] [] [] [])) (live := []) (u := vf) (bl := []) (ob := [((decide (a1 < (8 : Int))), false), ((decide (a1 ≥ (0 : Int))), true), ((a0 == (1 : Int)), true)]) (by kernel_rfl) (oN <| oY <| oT Zb) rfl (by decide) (by rfl) rr trivial
  ·
   exact Zk (r := (.r0 (false) : ZE)) (fu := 4000) (orc := (Zh [(0, true), (1, false)] [] [] [] [])) (live := []) (u := vf) (bl := []) (ob := [((decide (a1 ≥ (0 : Int))), false), ((a0 == (1 : Int)), true)]) (by kernel_rfl) (oN <| oT Zb) rfl (by decide) (by rfl) rr trivial
 ·
  refine Zl (fun g1 => ?_) (fun g1 => ?_)
  ·
   refine Zl (fun g2 => ?_) (fun g2 => ?_)
   ·
    refine Zl (fun g3 => ?_) (fun g3 => ?_)
    ·
     exact Zk (r := (.r0 (true) : ZE)) (fu := 4000) (orc := (Zh [(0, false), (1, true), (2, true), (3, true)] [] [] [] [])) (live := []) (u := vT) (bl := []) (ob := [((decide (a1 ≤ (1099511627776 : Int))), true), ((decide (a1 ≥ (-1099511627776 : Int))), true), ((a0 == (2 : Int)), true), ((a0 == (1 : Int)), false)]) (by kernel_rfl) (oY <| oY <| oT <| oF Zb) rfl (by decide) (by rfl) rr trivial
    ·
     exact Zk (r := (.r0 (false) : ZE)) (fu := 4000) (orc := (Zh [(0, false), (1, true), (2, true), (3, false)] [] [] [] [])) (live := []) (u := vf) (bl := []) (ob := [((decide (a1 ≤ (1099511627776 : Int))), false), ((decide (a1 ≥ (-1099511627776 : Int))), true), ((a0 == (2 : Int)), true), ((a0 == (1 : Int)), false)]) (by kernel_rfl) (oN <| oY <| oT <| oF Zb) rfl (by decide) (by rfl) rr trivial
   ·
    exact Zk (r := (.r0 (false) : ZE)) (fu := 4000) (orc := (Zh [(0, false), (1, true), (2, false)] [] [] [] [])) (live := []) (u := vf) (bl := []) (ob := [((decide (a1 ≥ (-1099511627776 : Int))), false), ((a0 == (2 : Int)), true), ((a0 == (1 : Int)), false)]) (by kernel_rfl) (oN <| oT <| oF Zb) rfl (by decide) (by rfl) rr trivial
  ·
   refine Zl (fun g2 => ?_) (fun g2 => ?_)
   ·
    refine Zl (fun g3 => ?_) (fun g3 => ?_)
    ·
     refine Zl (fun g4 => ?_) (fun g4 => ?_)
     ·
      exact Zk (r := (.r0 (true) : ZE)) (fu := 4000) (orc := (Zh [(0, false), (1, false), (2, true), (3, true), (4, true)] [] [] [] [])) (live := []) (u := vT) (bl := []) (ob := [((decide (a1 ≤ (512 : Int))), true), ((decide (a1 ≥ (0 : Int))), true), ((a0 == (3 : Int)), true), ((a0 == (2 : Int)), false), ((a0 == (1 : Int)), false)]) (by kernel_rfl) (oY <| oY <| oT <| oF <| oF Zb) rfl (by decide) (by rfl) rr trivial
     ·
      exact Zk (r := (.r0 (false) : ZE)) (fu := 4000) (orc := (Zh [(0, false), (1, false), (2, true), (3, true), (4, false)] [] [] [] [])) (live := []) (u := vf) (bl := []) (ob := [((decide (a1 ≤ (512 : Int))), false), ((decide (a1 ≥ (0 : Int))), true), ((a0 == (3 : Int)), true), ((a0 == (2 : Int)), false), ((a0 == (1 : Int)), false)]) (by kernel_rfl) (oN <| oY <| oT <| oF <| oF Zb) rfl (by decide) (by rfl) rr trivial
    ·
     exact Zk (r := (.r0 (false) : ZE)) (fu := 4000) (orc := (Zh [(0, false), (1, false), (2, true), (3, false)] [] [] [] [])) (live := []) (u := vf) (bl := []) (ob := [((decide (a1 ≥ (0 : Int))), false), ((a0 == (3 : Int)), true), ((a0 == (2 : Int)), false), ((a0 == (1 : Int)), false)]) (by kernel_rfl) (oN <| oT <| oF <| oF Zb) rfl (by decide) (by rfl) rr trivial
   ·
    refine Zl (fun g3 => ?_) (fun g3 => ?_)
    ·
     refine Zl (fun g4 => ?_) (fun g4 => ?_)
     ·
      refine Zl (fun g5 => ?_) (fun g5 => ?_)
      ·
       exact Zk (r := (.r0 (true) : ZE)) (fu := 4000) (orc := (Zh [(0, false), (1, false), (2, false), (3, true), (4, true), (5, true)] [] [] [] [])) (live := []) (u := vT) (bl := []) (ob := [((decide (a1 < (16 : Int))), true), ((decide (a1 ≥ (0 : Int))), true), ((a0 == (4 : Int)), true), ((a0 == (3 : Int)), false), ((a0 == (2 : Int)), false), ((a0 == (1 : Int)), false)]) (by kernel_rfl) (oY <| oY <| oT <| oF <| oF <| oF Zb) rfl (by decide) (by rfl) rr trivial
      ·
       exact Zk (r := (.r0 (false) : ZE)) (fu := 4000) (orc := (Zh [(0, false), (1, false), (2, false), (3, true), (4, true), (5, false)] [] [] [] [])) (live := []) (u := vf) (bl := []) (ob := [((decide (a1 < (16 : Int))), false), ((decide (a1 ≥ (0 : Int))), true), ((a0 == (4 : Int)), true), ((a0 == (3 : Int)), false), ((a0 == (2 : Int)), false), ((a0 == (1 : Int)), false)]) (by kernel_rfl) (oN <| oY <| oT <| oF <| oF <| oF Zb) rfl (by decide) (by rfl) rr trivial
     ·
      exact Zk (r := (.r0 (false) : ZE)) (fu := 4000) (orc := (Zh [(0, false), (1, false), (2, false), (3, true), (4, false)] [] [] [] [])) (live := []) (u := vf) (bl := []) (ob := [((decide (a1 ≥ (0 : Int))), false), ((a0 == (4 : Int)), true), ((a0 == (3 : Int)), false), ((a0 == (2 : Int)), false), ((a0 == (1 : Int)), false)]) (by kernel_rfl) (oN <| oT <| oF <| oF <| oF Zb) rfl (by decide) (by rfl) rr trivial
    ·
     refine Zl (fun g4 => ?_) (fun g4 => ?_)
     ·
      refine Zl (fun g5 => ?_) (fun g5 => ?_)
      ·
       refine Zl (fun g6 => ?_) (fun g6 => ?_)
       ·
        exact Zk (r := (.r0 (true) : ZE)) (fu := 4000) (orc := (Zh [(0, false), (1, false), (2, false), (3, false), (4, true), (5, true), (6, true)] [] [] [] [])) (live := []) (u := vT) (bl := []) (ob := [((decide (a1 ≤ (16 : Int))), true), ((decide (a1 ≥ (1 : Int))), true), ((a0 == (5 : Int)), true), ((a0 == (4 : Int)), false), ((a0 == (3 : Int)), false), ((a0 == (2 : Int)), false), ((a0 == (1 : Int)), false)]) (by kernel_rfl) (oY <| oY <| oT <| oF <| oF <| oF <| oF Zb) rfl (by decide) (by rfl) rr trivial
       ·
        exact Zk (r := (.r0 (false) : ZE)) (fu := 4000) (orc := (Zh [(0, false), (1, false), (2, false), (3, false), (4, true), (5, true), (6, false)] [] [] [] [])) (live := []) (u := vf) (bl := []) (ob := [((decide (a1 ≤ (16 : Int))), false), ((decide (a1 ≥ (1 : Int))), true), ((a0 == (5 : Int)), true), ((a0 == (4 : Int)), false), ((a0 == (3 : Int)), false), ((a0 == (2 : Int)), false), ((a0 == (1 : Int)), false)]) (by kernel_rfl) (oN <| oY <| oT <| oF <| oF <| oF <| oF Zb) rfl (by decide) (by rfl) rr trivial
      ·
       exact Zk (r := (.r0 (false) : ZE)) (fu := 4000) (orc := (Zh [(0, false), (1, false), (2, false), (3, false), (4, true), (5, false)] [] [] [] [])) (live := []) (u := vf) (bl := []) (ob := [((decide (a1 ≥ (1 : Int))), false), ((a0 == (5 : Int)), true), ((a0 == (4 : Int)), false), ((a0 == (3 : Int)), false), ((a0 == (2 : Int)), false), ((a0 == (1 : Int)), false)]) (by kernel_rfl) (oN <| oT <| oF <| oF <| oF <| oF Zb) rfl (by decide) (by rfl) rr trivial
     ·
      refine Zl (fun g5 => ?_) (fun g5 => ?_)
      ·
       refine Zl (fun g6 => ?_) (fun g6 => ?_)
       ·
        refine Zl (fun g7 => ?_) (fun g7 => ?_)
        ·
         refine Zl (fun g8 => ?_) (fun g8 => ?_)
         ·
          refine Zl (fun g9 => ?_) (fun g9 => ?_)
          ·
           exact Zk (r := (.r0 (true) : ZE)) (fu := 4000) (orc := (Zh [(0, false), (1, false), (2, false), (3, false), (4, false), (5, true), (6, true), (7, true), (8, true), (9, true)] [(0, a2)] [] [] [(0, .sh (a2).toNat)])) (live := []) (u := vT) (bl := []) (ob := [((decide (a1 < (IntKind.i64.wrap ((1 : Int) * (2 ^ (a2).toNat : Int))))), true), (dP (a2 = Int.ofNat (a2).toNat ∧ (a2).toNat ≤ IntKind.i64.bits), true), ((IntKind.u64.wrap a2) == a2, true), ((decide (a1 ≥ (0 : Int))), true), ((decide (a2 ≤ (16 : Int))), true), ((decide (a2 ≥ (1 : Int))), true), ((a0 == (6 : Int)), true), ((a0 == (5 : Int)), false), ((a0 == (4 : Int)), false), ((a0 == (3 : Int)), false), ((a0 == (2 : Int)), false), ((a0 == (1 : Int)), false)]) (by kernel_rfl) (oY <| Za (Zg ⟨by first | rfl | exact ZgI (by omega), show _ ≤ 64 from by omega⟩) <| Za (beq_iff_eq.2 (Zaa ltA)) <| oY <| oY <| oY <| oT <| oF <| oF <| oF <| oF <| oF Zb) rfl (by decide) (by rfl) rr trivial
          ·
           exact Zk (r := (.r0 (false) : ZE)) (fu := 4000) (orc := (Zh [(0, false), (1, false), (2, false), (3, false), (4, false), (5, true), (6, true), (7, true), (8, true), (9, false)] [(0, a2)] [] [] [(0, .sh (a2).toNat)])) (live := []) (u := vf) (bl := []) (ob := [((decide (a1 < (IntKind.i64.wrap ((1 : Int) * (2 ^ (a2).toNat : Int))))), false), (dP (a2 = Int.ofNat (a2).toNat ∧ (a2).toNat ≤ IntKind.i64.bits), true), ((IntKind.u64.wrap a2) == a2, true), ((decide (a1 ≥ (0 : Int))), true), ((decide (a2 ≤ (16 : Int))), true), ((decide (a2 ≥ (1 : Int))), true), ((a0 == (6 : Int)), true), ((a0 == (5 : Int)), false), ((a0 == (4 : Int)), false), ((a0 == (3 : Int)), false), ((a0 == (2 : Int)), false), ((a0 == (1 : Int)), false)]) (by kernel_rfl) (oN <| Za (Zg ⟨by first | rfl | exact ZgI (by omega), show _ ≤ 64 from by omega⟩) <| Za (beq_iff_eq.2 (Zaa ltA)) <| oY <| oY <| oY <| oT <| oF <| oF <| oF <| oF <| oF Zb) rfl (by decide) (by rfl) rr trivial
         ·
          exact Zk (r := (.r0 (false) : ZE)) (fu := 4000) (orc := (Zh [(0, false), (1, false), (2, false), (3, false), (4, false), (5, true), (6, true), (7, true), (8, false)] [] [] [] [])) (live := []) (u := vf) (bl := []) (ob := [((decide (a1 ≥ (0 : Int))), false), ((decide (a2 ≤ (16 : Int))), true), ((decide (a2 ≥ (1 : Int))), true), ((a0 == (6 : Int)), true), ((a0 == (5 : Int)), false), ((a0 == (4 : Int)), false), ((a0 == (3 : Int)), false), ((a0 == (2 : Int)), false), ((a0 == (1 : Int)), false)]) (by kernel_rfl) (oN <| oY <| oY <| oT <| oF <| oF <| oF <| oF <| oF Zb) rfl (by decide) (by rfl) rr trivial
        ·
         exact Zk (r := (.r0 (false) : ZE)) (fu := 4000) (orc := (Zh [(0, false), (1, false), (2, false), (3, false), (4, false), (5, true), (6, true), (7, false)] [] [] [] [])) (live := []) (u := vf) (bl := []) (ob := [((decide (a2 ≤ (16 : Int))), false), ((decide (a2 ≥ (1 : Int))), true), ((a0 == (6 : Int)), true), ((a0 == (5 : Int)), false), ((a0 == (4 : Int)), false), ((a0 == (3 : Int)), false), ((a0 == (2 : Int)), false), ((a0 == (1 : Int)), false)]) (by kernel_rfl) (oN <| oY <| oT <| oF <| oF <| oF <| oF <| oF Zb) rfl (by decide) (by rfl) rr trivial
       ·
        exact Zk (r := (.r0 (false) : ZE)) (fu := 4000) (orc := (Zh [(0, false), (1, false), (2, false), (3, false), (4, false), (5, true), (6, false)] [] [] [] [])) (live := []) (u := vf) (bl := []) (ob := [((decide (a2 ≥ (1 : Int))), false), ((a0 == (6 : Int)), true), ((a0 == (5 : Int)), false), ((a0 == (4 : Int)), false), ((a0 == (3 : Int)), false), ((a0 == (2 : Int)), false), ((a0 == (1 : Int)), false)]) (by kernel_rfl) (oN <| oT <| oF <| oF <| oF <| oF <| oF Zb) rfl (by decide) (by rfl) rr trivial
      ·
       refine Zl (fun g6 => ?_) (fun g6 => ?_)
       ·
        exact Zk (r := (.r0 (true) : ZE)) (fu := 4000) (orc := (Zh [(0, false), (1, false), (2, false), (3, false), (4, false), (5, false), (6, true)] [] [] [] [])) (live := []) (u := vT) (bl := []) (ob := [((a1 == (0 : Int)), true), ((a0 == (6 : Int)), false), ((a0 == (5 : Int)), false), ((a0 == (4 : Int)), false), ((a0 == (3 : Int)), false), ((a0 == (2 : Int)), false), ((a0 == (1 : Int)), false)]) (by kernel_rfl) (oT <| oF <| oF <| oF <| oF <| oF <| oF Zb) rfl (by decide) (by rfl) rr trivial
       ·
        exact Zk (r := (.r0 (false) : ZE)) (fu := 4000) (orc := (Zh [(0, false), (1, false), (2, false), (3, false), (4, false), (5, false), (6, false)] [] [] [] [])) (live := []) (u := vf) (bl := []) (ob := [((a1 == (0 : Int)), false), ((a0 == (6 : Int)), false), ((a0 == (5 : Int)), false), ((a0 == (4 : Int)), false), ((a0 == (3 : Int)), false), ((a0 == (2 : Int)), false), ((a0 == (1 : Int)), false)]) (by kernel_rfl) (oF <| oF <| oF <| oF <| oF <| oF <| oF Zb) rfl (by decide) (by rfl) rr trivial

theorem Zp2 (a0 a1 a2 : Int) (N : Nat) (r : ZE) (h : Zax a0 a1 a2 N = some r) : LSpec Try.prog 36 #[vi a0, vi a1, vi a2] [] (Zos a0 a1 a2 r) (ZmW a0 a1 a2 r) :=
 ZdD ZaR Try.func36 (by kernel_rfl) (by kernel_rfl) (fun r => by cases r <;> exact Zal _ rfl) (Zrt a0 a1 a2 N) h

noncomputable def Zde (a0 a1 a2 : Int) (w0 : Bool) (n : Nat) : Za4 := .call [] (Value.bool w0) [] 0
def ZcE (A : Array Value) (a0 a1 a2 : Int) (w0 : Bool) (n : Nat) : Prop := ZB Try.prog 36 A [] (Value.bool w0) [] n 0

theorem Zdf (A : Array Value) (a0 a1 a2 : Int) (w0 : Bool) (N : Nat) (h : Zax a0 a1 a2 N = some (.r0 w0)) (n : Nat) (hA : A = #[vi a0, vi a1, vi a2]) (hnd : ([] : List Nat).Nodup) (hlt : ∀ k ∈ ([] : List Nat), k < n) : ZcE A a0 a1 a2 w0  n :=
 ZQ hA (LSpec.callL (show LSpec Try.prog 36 #[vi a0, vi a1, vi a2] [] (Value.bool w0) [] from Zp2 a0 a1 a2 N _ h) [] n [] rfl hnd hlt (show 0 ≤ 0 from by decide) (show ∀ j ∈ ([] : List Nat), j < 0 from by decide) (by rfl) trivial (by rfl) trivial trivial rfl rfl rfl rfl rfl)

noncomputable def ZqG (a0 a1 a2 a3 : Int) : Zc4 → Value
 | .r0 w0 => Value.bool w0
noncomputable def Zp3 (a0 a1 a2 a3 : Int) : Zc4 → List (Option AObj)
 | .r0 w0 => []

theorem Ztu (a0 a1 a2 a3 : Int) (N : Nat) : Fx Try.prog Zj Try.f25 [] #[Value.agg #[vi a0, vi a1, vi a2, vi a3]] (ZqG a0 a1 a2 a3) (Zp3 a0 a1 a2 a3) (ZS a0 a1 a2 a3 N) := by
 unfold ZS
 refine ZdC (fun z0 c0 => ?_)
 cases z0 with
 | r0 y0_0 y0_1 y0_2 y0_3 =>
  refine Zl (fun g1 => ?_) (fun g1 => ?_)
  ·
   subst g1
   refine ZdC (fun z2 c2 => ?_)
   cases z2 with
   | r0 y2_0 =>
    refine Zl (fun g3 => ?_) (fun g3 => ?_)
    ·
     subst g3
     refine ZdC (fun z4 c4 => ?_)
     cases z4 with
     | r0 y4_0 =>
      refine Zl (fun g5 => ?_) (fun g5 => ?_)
      ·
       subst g5
       refine ZdC (fun z6 c6 => ?_)
       cases z6 with
       | r0 y6_0 =>
        refine Zl (fun g7 => ?_) (fun g7 => ?_)
        ·
         subst g7
         exact Zk (r := (.r0 (true) : Zc4)) (fu := 4000) (orc := (Zh [] [] [] [] [(0, (Zd4 (a0)  y0_0 y0_1 y0_2 true  1)), (2, (Zde (y0_0) (a1) ((0 : Int))  true  2)), (3, (Zde (y0_1) (a2) ((0 : Int))  true  2)), (4, (Zde (y0_2) (a3) (a2)  true  2))])) (live := []) (u := vT) (bl := []) (ob := [(dP (ZcE #[vi y0_2, vi a3, vi a2] (y0_2) (a3) (a2)  true  2), true), (dP (ZcE #[vi y0_1, vi a2, vq] (y0_1) (a2) ((0 : Int))  true  2), true), (dP (ZcE #[vi y0_0, vi a1, vq] (y0_0) (a1) ((0 : Int))  true  2), true), (dP (ZcX #[vi a0] (a0)  y0_0 y0_1 y0_2 true  1), true)]) (by kernel_rfl) (Za (Zg (Zdf #[vi y0_2, vi a3, vi a2] (y0_2) (a3) (a2)  true N c6  2 rfl (by decide) (by decide))) <| Za (Zg (Zdf #[vi y0_1, vi a2, vq] (y0_1) (a2) ((0 : Int))  true N c4  2 rfl (by decide) (by decide))) <| Za (Zg (Zdf #[vi y0_0, vi a1, vq] (y0_0) (a1) ((0 : Int))  true N c2  2 rfl (by decide) (by decide))) <| Za (Zg (Zd5 #[vi a0] (a0)  y0_0 y0_1 y0_2 true N c0  1 rfl (by decide) (by decide))) Zb) rfl (by decide) (by rfl) rr trivial
        ·
         obtain rfl : y6_0 = false := by simpa using g7
         exact Zk (r := (.r0 (false) : Zc4)) (fu := 4000) (orc := (Zh [] [] [] [] [(0, (Zd4 (a0)  y0_0 y0_1 y0_2 true  1)), (2, (Zde (y0_0) (a1) ((0 : Int))  true  2)), (3, (Zde (y0_1) (a2) ((0 : Int))  true  2)), (4, (Zde (y0_2) (a3) (a2)  false  2))])) (live := []) (u := vf) (bl := []) (ob := [(dP (ZcE #[vi y0_2, vi a3, vi a2] (y0_2) (a3) (a2)  false  2), true), (dP (ZcE #[vi y0_1, vi a2, vq] (y0_1) (a2) ((0 : Int))  true  2), true), (dP (ZcE #[vi y0_0, vi a1, vq] (y0_0) (a1) ((0 : Int))  true  2), true), (dP (ZcX #[vi a0] (a0)  y0_0 y0_1 y0_2 true  1), true)]) (by kernel_rfl) (Za (Zg (Zdf #[vi y0_2, vi a3, vi a2] (y0_2) (a3) (a2)  false N c6  2 rfl (by decide) (by decide))) <| Za (Zg (Zdf #[vi y0_1, vi a2, vq] (y0_1) (a2) ((0 : Int))  true N c4  2 rfl (by decide) (by decide))) <| Za (Zg (Zdf #[vi y0_0, vi a1, vq] (y0_0) (a1) ((0 : Int))  true N c2  2 rfl (by decide) (by decide))) <| Za (Zg (Zd5 #[vi a0] (a0)  y0_0 y0_1 y0_2 true N c0  1 rfl (by decide) (by decide))) Zb) rfl (by decide) (by rfl) rr trivial
      ·
       obtain rfl : y4_0 = false := by simpa using g5
       exact Zk (r := (.r0 (false) : Zc4)) (fu := 4000) (orc := (Zh [] [] [] [] [(0, (Zd4 (a0)  y0_0 y0_1 y0_2 true  1)), (2, (Zde (y0_0) (a1) ((0 : Int))  true  2)), (3, (Zde (y0_1) (a2) ((0 : Int))  false  2))])) (live := []) (u := vf) (bl := []) (ob := [(dP (ZcE #[vi y0_1, vi a2, vq] (y0_1) (a2) ((0 : Int))  false  2), true), (dP (ZcE #[vi y0_0, vi a1, vq] (y0_0) (a1) ((0 : Int))  true  2), true), (dP (ZcX #[vi a0] (a0)  y0_0 y0_1 y0_2 true  1), true)]) (by kernel_rfl) (Za (Zg (Zdf #[vi y0_1, vi a2, vq] (y0_1) (a2) ((0 : Int))  false N c4  2 rfl (by decide) (by decide))) <| Za (Zg (Zdf #[vi y0_0, vi a1, vq] (y0_0) (a1) ((0 : Int))  true N c2  2 rfl (by decide) (by decide))) <| Za (Zg (Zd5 #[vi a0] (a0)  y0_0 y0_1 y0_2 true N c0  1 rfl (by decide) (by decide))) Zb) rfl (by decide) (by rfl) rr trivial
    ·
     obtain rfl : y2_0 = false := by simpa using g3
     exact Zk (r := (.r0 (false) : Zc4)) (fu := 4000) (orc := (Zh [] [] [] [] [(0, (Zd4 (a0)  y0_0 y0_1 y0_2 true  1)), (2, (Zde (y0_0) (a1) ((0 : Int))  false  2))])) (live := []) (u := vf) (bl := []) (ob := [(dP (ZcE #[vi y0_0, vi a1, vq] (y0_0) (a1) ((0 : Int))  false  2), true), (dP (ZcX #[vi a0] (a0)  y0_0 y0_1 y0_2 true  1), true)]) (by kernel_rfl) (Za (Zg (Zdf #[vi y0_0, vi a1, vq] (y0_0) (a1) ((0 : Int))  false N c2  2 rfl (by decide) (by decide))) <| Za (Zg (Zd5 #[vi a0] (a0)  y0_0 y0_1 y0_2 true N c0  1 rfl (by decide) (by decide))) Zb) rfl (by decide) (by rfl) rr trivial
  ·
   obtain rfl : y0_3 = false := by simpa using g1
   exact Zk (r := (.r0 (false) : Zc4)) (fu := 4000) (orc := (Zh [] [] [] [] [(0, (Zd4 (a0)  y0_0 y0_1 y0_2 false  1))])) (live := []) (u := vf) (bl := []) (ob := [(dP (ZcX #[vi a0] (a0)  y0_0 y0_1 y0_2 false  1), true)]) (by kernel_rfl) (Za (Zg (Zd5 #[vi a0] (a0)  y0_0 y0_1 y0_2 false N c0  1 rfl (by decide) (by decide))) Zb) rfl (by decide) (by rfl) rr trivial

theorem Zru (a0 a1 a2 a3 : Int) (N : Nat) (r : Zc4) (h : ZS a0 a1 a2 a3 N = some r) : LSpec Try.prog 25 #[Value.agg #[vi a0, vi a1, vi a2, vi a3]] [] (ZqG a0 a1 a2 a3 r) (Zp3 a0 a1 a2 a3 r) :=
 ZdD ZaR Try.func25 (by kernel_rfl) (by kernel_rfl) (fun r => by cases r <;> exact Zal _ rfl) (Ztu a0 a1 a2 a3 N) h

noncomputable def ZaF (a0 a1 a2 a3 : Int) (w0 : Bool) (n : Nat) : Za4 := .call [] (Value.bool w0) [] 0
def ZaA (A : Array Value) (a0 a1 a2 a3 : Int) (w0 : Bool) (n : Nat) : Prop := ZB Try.prog 25 A [] (Value.bool w0) [] n 0

theorem ZaG (A : Array Value) (a0 a1 a2 a3 : Int) (w0 : Bool) (N : Nat) (h : ZS a0 a1 a2 a3 N = some (.r0 w0)) (n : Nat) (hA : A = #[Value.agg #[vi a0, vi a1, vi a2, vi a3]]) (hnd : ([] : List Nat).Nodup) (hlt : ∀ k ∈ ([] : List Nat), k < n) : ZaA A a0 a1 a2 a3 w0  n :=
 ZQ hA (LSpec.callL (show LSpec Try.prog 25 #[Value.agg #[vi a0, vi a1, vi a2, vi a3]] [] (Value.bool w0) [] from Zru a0 a1 a2 a3 N _ h) [] n [] rfl hnd hlt (show 0 ≤ 0 from by decide) (show ∀ j ∈ ([] : List Nat), j < 0 from by decide) (by rfl) trivial (by rfl) trivial trivial rfl rfl rfl rfl rfl)

noncomputable def ZlP (a0 a1 a2 a3 : Int) : Z1 → Value
 | .r0 => Value.tuple #[vn, vi (100 : Int)]
 | .r1 w0 => Value.tuple #[vs 0 0 w0.length w0.length, vq]
noncomputable def Zky (a0 a1 a2 a3 : Int) : Z1 → List (Option AObj)
 | .r0 => []
 | .r1 w0 => [some (.cells (Zc (Ze .u8) w0) 5)]

noncomputable def ZiQ : FuncId → Option Ext := fun f => bif Nat.beq f 26 || Nat.beq f 28 then none else Zj f
theorem ZoE : Fit Try.prog ZiQ := Zvl ZaR _

end Ev
end Go.Proofs.Ytjfmadhcbgdakaa
