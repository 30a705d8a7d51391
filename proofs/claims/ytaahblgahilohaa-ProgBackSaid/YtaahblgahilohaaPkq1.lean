/- Calls do what the plain functions say. -/
import Derived.Test.YtaahblgahilohaaPka
namespace Go.Proofs.Ytaahblgahilohaa
open Go.RowKit
namespace Ev
set_option linter.unusedVariables false
set_option maxRecDepth 100000
noncomputable def instr_kindV (a0 : Int) : instr_kindR → Value
 | .r0 => Value.agg #[Value.string ⟨#[]⟩, vq, vq, vq]
 | .r1 => Value.agg #[Value.string ⟨#[99, 111, 110, 115, 116]⟩, vi (1 : Int), vi (6 : Int), vq]
 | .r2 => Value.agg #[Value.string ⟨#[110, 105, 108]⟩, vi (1 : Int), vq, vq]
 | .r3 => Value.agg #[Value.string ⟨#[109, 111, 118, 101]⟩, vi (1 : Int), vi (1 : Int), vq]
 | .r4 => Value.agg #[Value.string ⟨#[97, 100, 100]⟩, vi (1 : Int), vi (1 : Int), vi (1 : Int)]
 | .r5 => Value.agg #[Value.string ⟨#[115, 117, 98]⟩, vi (1 : Int), vi (1 : Int), vi (1 : Int)]
 | .r6 => Value.agg #[Value.string ⟨#[108, 101, 115, 115]⟩, vi (1 : Int), vi (1 : Int), vi (1 : Int)]
 | .r7 => Value.agg #[Value.string ⟨#[101, 113]⟩, vi (1 : Int), vi (1 : Int), vi (1 : Int)]
 | .r8 => Value.agg #[Value.string ⟨#[106, 117, 109, 112]⟩, vi (4 : Int), vq, vq]
 | .r9 => Value.agg #[Value.string ⟨#[106, 117, 109, 112, 122]⟩, vi (1 : Int), vi (4 : Int), vq]
 | .r10 => Value.agg #[Value.string ⟨#[114, 111, 111, 116]⟩, vi (1 : Int), vq, vq]
 | .r11 => Value.agg #[Value.string ⟨#[110, 101, 119]⟩, vi (1 : Int), vi (3 : Int), vi (5 : Int)]
 | .r12 => Value.agg #[Value.string ⟨#[102, 114, 101, 101]⟩, vi (1 : Int), vq, vq]
 | .r13 => Value.agg #[Value.string ⟨#[103, 101, 116]⟩, vi (1 : Int), vi (1 : Int), vi (2 : Int)]
 | .r14 => Value.agg #[Value.string ⟨#[115, 101, 116]⟩, vi (1 : Int), vi (2 : Int), vi (1 : Int)]
 | .r15 => Value.agg #[Value.string ⟨#[98, 101, 103, 105, 110]⟩, vq, vq, vq]
 | .r16 => Value.agg #[Value.string ⟨#[101, 108, 115, 101]⟩, vq, vq, vq]
 | .r17 => Value.agg #[Value.string ⟨#[101, 110, 100]⟩, vq, vq, vq]
 | .r18 => Value.agg #[Value.string ⟨#[114, 101, 116, 114, 121]⟩, vq, vq, vq]
 | .r19 => Value.agg #[Value.string ⟨#[101, 109, 105, 116]⟩, vi (1 : Int), vq, vq]
 | .r20 => Value.agg #[Value.string ⟨#[104, 97, 108, 116]⟩, vq, vq, vq]
noncomputable def instr_kindPo (a0 : Int) : instr_kindR → List (Option AObj)
 | .r0 => []
 | .r1 => []
 | .r2 => []
 | .r3 => []
 | .r4 => []
 | .r5 => []
 | .r6 => []
 | .r7 => []
 | .r8 => []
 | .r9 => []
 | .r10 => []
 | .r11 => []
 | .r12 => []
 | .r13 => []
 | .r14 => []
 | .r15 => []
 | .r16 => []
 | .r17 => []
 | .r18 => []
 | .r19 => []
 | .r20 => []

theorem instr_kind_fx (a0 : Int) (N : Nat) : Fx Try.prog ext_Pk Try.f22 [] #[vi a0] (instr_kindV a0) (instr_kindPo a0) (instr_kind a0 N) := by
 unfold instr_kind
 refine fx_ite (fun g0 => ?_) (fun g0 => ?_)
 ·
  exact fx_fin (r := (.r0 : instr_kindR)) (fu := 4000) (orc := (orcw [(0, true)] [] [] [] [])) (live := []) (u := Value.agg #[Value.string ⟨#[]⟩, vq, vq, vq]) (bl := []) (ob := [((decide (a0 < (0 : Int))), true)]) (by kernel_rfl) (oY obs_nil) rfl (by decide) (by rfl) rr trivial
 ·
  refine fx_ite (fun g1 => ?_) (fun g1 => ?_)
  ·
   exact fx_fin (r := (.r0 : instr_kindR)) (fu := 4000) (orc := (orcw [(0, false), (1, true)] [] [] [] [])) (live := []) (u := Value.agg #[Value.string ⟨#[]⟩, vq, vq, vq]) (bl := []) (ob := [((decide (a0 ≥ (21 : Int))), true), ((decide (a0 < (0 : Int))), false)]) (by kernel_rfl) (oY <| oN obs_nil) rfl (by decide) (by rfl) rr trivial
  ·
   refine fx_ite (fun g2 => ?_) (fun g2 => ?_)
   ·
    exact fx_fin (r := (.r0 : instr_kindR)) (fu := 4000) (orc := (orcw [(0, false), (1, false)] [] [(0, 0)] [] [])) (live := []) (u := Value.agg #[Value.string ⟨#[]⟩, vq, vq, vq]) (bl := []) (ob := [(Nat.blt 0 21, true), (a0 == Int.ofNat 0, true), ((decide (a0 ≥ (21 : Int))), false), ((decide (a0 < (0 : Int))), false)]) (by kernel_rfl) (oB <| obs_cons (beq_iff_eq.2 (show _ = ((0 : Nat) : Int) from by omega)) <| oN <| oN obs_nil) rfl (by decide) (by rfl) rr trivial
   ·
    refine fx_ite (fun g3 => ?_) (fun g3 => ?_)
    ·
     exact fx_fin (r := (.r1 : instr_kindR)) (fu := 4000) (orc := (orcw [(0, false), (1, false)] [] [(0, 1)] [] [])) (live := []) (u := Value.agg #[Value.string ⟨#[99, 111, 110, 115, 116]⟩, vi (1 : Int), vi (6 : Int), vq]) (bl := []) (ob := [(Nat.blt 1 21, true), (a0 == Int.ofNat 1, true), ((decide (a0 ≥ (21 : Int))), false), ((decide (a0 < (0 : Int))), false)]) (by kernel_rfl) (oB <| obs_cons (beq_iff_eq.2 (show _ = ((1 : Nat) : Int) from by omega)) <| oN <| oN obs_nil) rfl (by decide) (by rfl) rr trivial
    ·
     refine fx_ite (fun g4 => ?_) (fun g4 => ?_)
     ·
      exact fx_fin (r := (.r2 : instr_kindR)) (fu := 4000) (orc := (orcw [(0, false), (1, false)] [] [(0, 2)] [] [])) (live := []) (u := Value.agg #[Value.string ⟨#[110, 105, 108]⟩, vi (1 : Int), vq, vq]) (bl := []) (ob := [(Nat.blt 2 21, true), (a0 == Int.ofNat 2, true), ((decide (a0 ≥ (21 : Int))), false), ((decide (a0 < (0 : Int))), false)]) (by kernel_rfl) (oB <| obs_cons (beq_iff_eq.2 (show _ = ((2 : Nat) : Int) from by omega)) <| oN <| oN obs_nil) rfl (by decide) (by rfl) rr trivial
     ·
      refine fx_ite (fun g5 => ?_) (fun g5 => ?_)
      ·
       exact fx_fin (r := (.r3 : instr_kindR)) (fu := 4000) (orc := (orcw [(0, false), (1, false)] [] [(0, 3)] [] [])) (live := []) (u := Value.agg #[Value.string ⟨#[109, 111, 118, 101]⟩, vi (1 : Int), vi (1 : Int), vq]) (bl := []) (ob := [(Nat.blt 3 21, true), (a0 == Int.ofNat 3, true), ((decide (a0 ≥ (21 : Int))), false), ((decide (a0 < (0 : Int))), false)]) (by kernel_rfl) (oB <| obs_cons (beq_iff_eq.2 (show _ = ((3 : Nat) : Int) from by omega)) <| oN <| oN obs_nil) rfl (by decide) (by rfl) rr trivial
      ·
       refine fx_ite (fun g6 => ?_) (fun g6 => ?_)
       ·
        exact fx_fin (r := (.r4 : instr_kindR)) (fu := 4000) (orc := (orcw [(0, false), (1, false)] [] [(0, 4)] [] [])) (live := []) (u := Value.agg #[Value.string ⟨#[97, 100, 100]⟩, vi (1 : Int), vi (1 : Int), vi (1 : Int)]) (bl := []) (ob := [(Nat.blt 4 21, true), (a0 == Int.ofNat 4, true), ((decide (a0 ≥ (21 : Int))), false), ((decide (a0 < (0 : Int))), false)]) (by kernel_rfl) (oB <| obs_cons (beq_iff_eq.2 (show _ = ((4 : Nat) : Int) from by omega)) <| oN <| oN obs_nil) rfl (by decide) (by rfl) rr trivial
       ·
        refine fx_ite (fun g7 => ?_) (fun g7 => ?_)
        ·
         exact fx_fin (r := (.r5 : instr_kindR)) (fu := 4000) (orc := (orcw [(0, false), (1, false)] [] [(0, 5)] [] [])) (live := []) (u := Value.agg #[Value.string ⟨#[115, 117, 98]⟩, vi (1 : Int), vi (1 : Int), vi (1 : Int)]) (bl := []) (ob := [(Nat.blt 5 21, true), (a0 == Int.ofNat 5, true), ((decide (a0 ≥ (21 : Int))), false), ((decide (a0 < (0 : Int))), false)]) (by kernel_rfl) (oB <| obs_cons (beq_iff_eq.2 (show _ = ((5 : Nat) : Int) from by omega)) <| oN <| oN obs_nil) rfl (by decide) (by rfl) rr trivial
        ·
         refine fx_ite (fun g8 => ?_) (fun g8 => ?_)
         ·
          exact fx_fin (r := (.r6 : instr_kindR)) (fu := 4000) (orc := (orcw [(0, false), (1, false)] [] [(0, 6)] [] [])) (live := []) (u := Value.agg #[Value.string ⟨#[108, 101, 115, 115]⟩, vi (1 : Int), vi (1 : Int), vi (1 : Int)]) (bl := []) (ob := [(Nat.blt 6 21, true), (a0 == Int.ofNat 6, true), ((decide (a0 ≥ (21 : Int))), false), ((decide (a0 < (0 : Int))), false)]) (by kernel_rfl) (oB <| obs_cons (beq_iff_eq.2 (show _ = ((6 : Nat) : Int) from by omega)) <| oN <| oN obs_nil) rfl (by decide) (by rfl) rr trivial
         ·
          refine fx_ite (fun g9 => ?_) (fun g9 => ?_)
          ·
           exact fx_fin (r := (.r7 : instr_kindR)) (fu := 4000) (orc := (orcw [(0, false), (1, false)] [] [(0, 7)] [] [])) (live := []) (u := Value.agg #[Value.string ⟨#[101, 113]⟩, vi (1 : Int), vi (1 : Int), vi (1 : Int)]) (bl := []) (ob := [(Nat.blt 7 21, true), (a0 == Int.ofNat 7, true), ((decide (a0 ≥ (21 : Int))), false), ((decide (a0 < (0 : Int))), false)]) (by kernel_rfl) (oB <| obs_cons (beq_iff_eq.2 (show _ = ((7 : Nat) : Int) from by omega)) <| oN <| oN obs_nil) rfl (by decide) (by rfl) rr trivial
          ·
           refine fx_ite (fun g10 => ?_) (fun g10 => ?_)
           ·
            exact fx_fin (r := (.r8 : instr_kindR)) (fu := 4000) (orc := (orcw [(0, false), (1, false)] [] [(0, 8)] [] [])) (live := []) (u := Value.agg #[Value.string ⟨#[106, 117, 109, 112]⟩, vi (4 : Int), vq, vq]) (bl := []) (ob := [(Nat.blt 8 21, true), (a0 == Int.ofNat 8, true), ((decide (a0 ≥ (21 : Int))), false), ((decide (a0 < (0 : Int))), false)]) (by kernel_rfl) (oB <| obs_cons (beq_iff_eq.2 (show _ = ((8 : Nat) : Int) from by omega)) <| oN <| oN obs_nil) rfl (by decide) (by rfl) rr trivial
           ·
            refine fx_ite (fun g11 => ?_) (fun g11 => ?_)
            ·
             exact fx_fin (r := (.r9 : instr_kindR)) (fu := 4000) (orc := (orcw [(0, false), (1, false)] [] [(0, 9)] [] [])) (live := []) (u := Value.agg #[Value.string ⟨#[106, 117, 109, 112, 122]⟩, vi (1 : Int), vi (4 : Int), vq]) (bl := []) (ob := [(Nat.blt 9 21, true), (a0 == Int.ofNat 9, true), ((decide (a0 ≥ (21 : Int))), false), ((decide (a0 < (0 : Int))), false)]) (by kernel_rfl) (oB <| obs_cons (beq_iff_eq.2 (show _ = ((9 : Nat) : Int) from by omega)) <| oN <| oN obs_nil) rfl (by decide) (by rfl) rr trivial
            ·
             refine fx_ite (fun g12 => ?_) (fun g12 => ?_)
             ·
              exact fx_fin (r := (.r10 : instr_kindR)) (fu := 4000) (orc := (orcw [(0, false), (1, false)] [] [(0, 10)] [] [])) (live := []) (u := Value.agg #[Value.string ⟨#[114, 111, 111, 116]⟩, vi (1 : Int), vq, vq]) (bl := []) (ob := [(Nat.blt 10 21, true), (a0 == Int.ofNat 10, true), ((decide (a0 ≥ (21 : Int))), false), ((decide (a0 < (0 : Int))), false)]) (by kernel_rfl) (oB <| obs_cons (beq_iff_eq.2 (show _ = ((10 : Nat) : Int) from by omega)) <| oN <| oN obs_nil) rfl (by decide) (by rfl) rr trivial
             ·
              refine fx_ite (fun g13 => ?_) (fun g13 => ?_)
              ·
               exact fx_fin (r := (.r11 : instr_kindR)) (fu := 4000) (orc := (orcw [(0, false), (1, false)] [] [(0, 11)] [] [])) (live := []) (u := Value.agg #[Value.string ⟨#[110, 101, 119]⟩, vi (1 : Int), vi (3 : Int), vi (5 : Int)]) (bl := []) (ob := [(Nat.blt 11 21, true), (a0 == Int.ofNat 11, true), ((decide (a0 ≥ (21 : Int))), false), ((decide (a0 < (0 : Int))), false)]) (by kernel_rfl) (oB <| obs_cons (beq_iff_eq.2 (show _ = ((11 : Nat) : Int) from by omega)) <| oN <| oN obs_nil) rfl (by decide) (by rfl) rr trivial
              ·
               refine fx_ite (fun g14 => ?_) (fun g14 => ?_)
               ·
                exact fx_fin (r := (.r12 : instr_kindR)) (fu := 4000) (orc := (orcw [(0, false), (1, false)] [] [(0, 12)] [] [])) (live := []) (u := Value.agg #[Value.string ⟨#[102, 114, 101, 101]⟩, vi (1 : Int), vq, vq]) (bl := []) (ob := [(Nat.blt 12 21, true), (a0 == Int.ofNat 12, true), ((decide (a0 ≥ (21 : Int))), false), ((decide (a0 < (0 : Int))), false)]) (by kernel_rfl) (oB <| obs_cons (beq_iff_eq.2 (show _ = ((12 : Nat) : Int) from by omega)) <| oN <| oN obs_nil) rfl (by decide) (by rfl) rr trivial
               ·
                refine fx_ite (fun g15 => ?_) (fun g15 => ?_)
                ·
                 exact fx_fin (r := (.r13 : instr_kindR)) (fu := 4000) (orc := (orcw [(0, false), (1, false)] [] [(0, 13)] [] [])) (live := []) (u := Value.agg #[Value.string ⟨#[103, 101, 116]⟩, vi (1 : Int), vi (1 : Int), vi (2 : Int)]) (bl := []) (ob := [(Nat.blt 13 21, true), (a0 == Int.ofNat 13, true), ((decide (a0 ≥ (21 : Int))), false), ((decide (a0 < (0 : Int))), false)]) (by kernel_rfl) (oB <| obs_cons (beq_iff_eq.2 (show _ = ((13 : Nat) : Int) from by omega)) <| oN <| oN obs_nil) rfl (by decide) (by rfl) rr trivial
                ·
                 refine fx_ite (fun g16 => ?_) (fun g16 => ?_)
                 ·
                  exact fx_fin (r := (.r14 : instr_kindR)) (fu := 4000) (orc := (orcw [(0, false), (1, false)] [] [(0, 14)] [] [])) (live := []) (u := Value.agg #[Value.string ⟨#[115, 101, 116]⟩, vi (1 : Int), vi (2 : Int), vi (1 : Int)]) (bl := []) (ob := [(Nat.blt 14 21, true), (a0 == Int.ofNat 14, true), ((decide (a0 ≥ (21 : Int))), false), ((decide (a0 < (0 : Int))), false)]) (by kernel_rfl) (oB <| obs_cons (beq_iff_eq.2 (show _ = ((14 : Nat) : Int) from by omega)) <| oN <| oN obs_nil) rfl (by decide) (by rfl) rr trivial
                 ·
                  refine fx_ite (fun g17 => ?_) (fun g17 => ?_)
                  ·
                   exact fx_fin (r := (.r15 : instr_kindR)) (fu := 4000) (orc := (orcw [(0, false), (1, false)] [] [(0, 15)] [] [])) (live := []) (u := Value.agg #[Value.string ⟨#[98, 101, 103, 105, 110]⟩, vq, vq, vq]) (bl := []) (ob := [(Nat.blt 15 21, true), (a0 == Int.ofNat 15, true), ((decide (a0 ≥ (21 : Int))), false), ((decide (a0 < (0 : Int))), false)]) (by kernel_rfl) (oB <| obs_cons (beq_iff_eq.2 (show _ = ((15 : Nat) : Int) from by omega)) <| oN <| oN obs_nil) rfl (by decide) (by rfl) rr trivial
                  ·
                   refine fx_ite (fun g18 => ?_) (fun g18 => ?_)
                   ·
                    exact fx_fin (r := (.r16 : instr_kindR)) (fu := 4000) (orc := (orcw [(0, false), (1, false)] [] [(0, 16)] [] [])) (live := []) (u := Value.agg #[Value.string ⟨#[101, 108, 115, 101]⟩, vq, vq, vq]) (bl := []) (ob := [(Nat.blt 16 21, true), (a0 == Int.ofNat 16, true), ((decide (a0 ≥ (21 : Int))), false), ((decide (a0 < (0 : Int))), false)]) (by kernel_rfl) (oB <| obs_cons (beq_iff_eq.2 (show _ = ((16 : Nat) : Int) from by omega)) <| oN <| oN obs_nil) rfl (by decide) (by rfl) rr trivial
                   ·
                    refine fx_ite (fun g19 => ?_) (fun g19 => ?_)
                    ·
                     exact fx_fin (r := (.r17 : instr_kindR)) (fu := 4000) (orc := (orcw [(0, false), (1, false)] [] [(0, 17)] [] [])) (live := []) (u := Value.agg #[Value.string ⟨#[101, 110, 100]⟩, vq, vq, vq]) (bl := []) (ob := [(Nat.blt 17 21, true), (a0 == Int.ofNat 17, true), ((decide (a0 ≥ (21 : Int))), false), ((decide (a0 < (0 : Int))), false)]) (by kernel_rfl) (oB <| obs_cons (beq_iff_eq.2 (show _ = ((17 : Nat) : Int) from by omega)) <| oN <| oN obs_nil) rfl (by decide) (by rfl) rr trivial
                    ·
                     refine fx_ite (fun g20 => ?_) (fun g20 => ?_)
                     ·
                      exact fx_fin (r := (.r18 : instr_kindR)) (fu := 4000) (orc := (orcw [(0, false), (1, false)] [] [(0, 18)] [] [])) (live := []) (u := Value.agg #[Value.string ⟨#[114, 101, 116, 114, 121]⟩, vq, vq, vq]) (bl := []) (ob := [(Nat.blt 18 21, true), (a0 == Int.ofNat 18, true), ((decide (a0 ≥ (21 : Int))), false), ((decide (a0 < (0 : Int))), false)]) (by kernel_rfl) (oB <| obs_cons (beq_iff_eq.2 (show _ = ((18 : Nat) : Int) from by omega)) <| oN <| oN obs_nil) rfl (by decide) (by rfl) rr trivial
                     ·
                      refine fx_ite (fun g21 => ?_) (fun g21 => ?_)
                      ·
                       exact fx_fin (r := (.r19 : instr_kindR)) (fu := 4000) (orc := (orcw [(0, false), (1, false)] [] [(0, 19)] [] [])) (live := []) (u := Value.agg #[Value.string ⟨#[101, 109, 105, 116]⟩, vi (1 : Int), vq, vq]) (bl := []) (ob := [(Nat.blt 19 21, true), (a0 == Int.ofNat 19, true), ((decide (a0 ≥ (21 : Int))), false), ((decide (a0 < (0 : Int))), false)]) (by kernel_rfl) (oB <| obs_cons (beq_iff_eq.2 (show _ = ((19 : Nat) : Int) from by omega)) <| oN <| oN obs_nil) rfl (by decide) (by rfl) rr trivial
                      ·
                       exact fx_fin (r := (.r20 : instr_kindR)) (fu := 4000) (orc := (orcw [(0, false), (1, false)] [] [(0, 20)] [] [])) (live := []) (u := Value.agg #[Value.string ⟨#[104, 97, 108, 116]⟩, vq, vq, vq]) (bl := []) (ob := [(Nat.blt 20 21, true), (a0 == Int.ofNat 20, true), ((decide (a0 ≥ (21 : Int))), false), ((decide (a0 < (0 : Int))), false)]) (by kernel_rfl) (oB <| obs_cons (beq_iff_eq.2 (show _ = ((20 : Nat) : Int) from by omega)) <| oN <| oN obs_nil) rfl (by decide) (by rfl) rr trivial

theorem instr_kind_spec (a0 : Int) (N : Nat) (r : instr_kindR) (h : instr_kind a0 N = some r) : LSpec Try.prog 22 #[vi a0] [] (instr_kindV a0 r) (instr_kindPo a0 r) :=
 fx_spec fit_Pk Try.func22 (by kernel_rfl) (by kernel_rfl) (fun r => by cases r <;> exact le_far _ rfl) (instr_kind_fx a0 N) h

noncomputable def instr_kindT0 (a0 : Int) (n : Nat) : Told := .call [] (Value.agg #[Value.string ⟨#[]⟩, vq, vq, vq]) [] 0
def instr_kindP0 (A : Array Value) (a0 : Int) (n : Nat) : Prop := CallSpec Try.prog 22 A [] (Value.agg #[Value.string ⟨#[]⟩, vq, vq, vq]) [] n 0

theorem instr_kindC0 (A : Array Value) (a0 : Int) (N : Nat) (h : instr_kind a0 N = some (.r0)) (n : Nat) (hA : A = #[vi a0]) (hnd : ([] : List Nat).Nodup) (hlt : ∀ k ∈ ([] : List Nat), k < n) : instr_kindP0 A a0  n :=
 cs_args hA (LSpec.callL (show LSpec Try.prog 22 #[vi a0] [] (Value.agg #[Value.string ⟨#[]⟩, vq, vq, vq]) [] from instr_kind_spec a0 N _ h) [] n [] rfl hnd hlt (show 0 ≤ 0 from by decide) (show ∀ j ∈ ([] : List Nat), j < 0 from by decide) (by rfl) trivial (by rfl) trivial trivial rfl rfl rfl rfl rfl)

noncomputable def instr_kindT1 (a0 : Int) (n : Nat) : Told := .call [] (Value.agg #[Value.string ⟨#[99, 111, 110, 115, 116]⟩, vi (1 : Int), vi (6 : Int), vq]) [] 0
def instr_kindP1 (A : Array Value) (a0 : Int) (n : Nat) : Prop := CallSpec Try.prog 22 A [] (Value.agg #[Value.string ⟨#[99, 111, 110, 115, 116]⟩, vi (1 : Int), vi (6 : Int), vq]) [] n 0

theorem instr_kindC1 (A : Array Value) (a0 : Int) (N : Nat) (h : instr_kind a0 N = some (.r1)) (n : Nat) (hA : A = #[vi a0]) (hnd : ([] : List Nat).Nodup) (hlt : ∀ k ∈ ([] : List Nat), k < n) : instr_kindP1 A a0  n :=
 cs_args hA (LSpec.callL (show LSpec Try.prog 22 #[vi a0] [] (Value.agg #[Value.string ⟨#[99, 111, 110, 115, 116]⟩, vi (1 : Int), vi (6 : Int), vq]) [] from instr_kind_spec a0 N _ h) [] n [] rfl hnd hlt (show 0 ≤ 0 from by decide) (show ∀ j ∈ ([] : List Nat), j < 0 from by decide) (by rfl) trivial (by rfl) trivial trivial rfl rfl rfl rfl rfl)

noncomputable def instr_kindT2 (a0 : Int) (n : Nat) : Told := .call [] (Value.agg #[Value.string ⟨#[110, 105, 108]⟩, vi (1 : Int), vq, vq]) [] 0
def instr_kindP2 (A : Array Value) (a0 : Int) (n : Nat) : Prop := CallSpec Try.prog 22 A [] (Value.agg #[Value.string ⟨#[110, 105, 108]⟩, vi (1 : Int), vq, vq]) [] n 0

theorem instr_kindC2 (A : Array Value) (a0 : Int) (N : Nat) (h : instr_kind a0 N = some (.r2)) (n : Nat) (hA : A = #[vi a0]) (hnd : ([] : List Nat).Nodup) (hlt : ∀ k ∈ ([] : List Nat), k < n) : instr_kindP2 A a0  n :=
 cs_args hA (LSpec.callL (show LSpec Try.prog 22 #[vi a0] [] (Value.agg #[Value.string ⟨#[110, 105, 108]⟩, vi (1 : Int), vq, vq]) [] from instr_kind_spec a0 N _ h) [] n [] rfl hnd hlt (show 0 ≤ 0 from by decide) (show ∀ j ∈ ([] : List Nat), j < 0 from by decide) (by rfl) trivial (by rfl) trivial trivial rfl rfl rfl rfl rfl)

noncomputable def instr_kindT3 (a0 : Int) (n : Nat) : Told := .call [] (Value.agg #[Value.string ⟨#[109, 111, 118, 101]⟩, vi (1 : Int), vi (1 : Int), vq]) [] 0
def instr_kindP3 (A : Array Value) (a0 : Int) (n : Nat) : Prop := CallSpec Try.prog 22 A [] (Value.agg #[Value.string ⟨#[109, 111, 118, 101]⟩, vi (1 : Int), vi (1 : Int), vq]) [] n 0

theorem instr_kindC3 (A : Array Value) (a0 : Int) (N : Nat) (h : instr_kind a0 N = some (.r3)) (n : Nat) (hA : A = #[vi a0]) (hnd : ([] : List Nat).Nodup) (hlt : ∀ k ∈ ([] : List Nat), k < n) : instr_kindP3 A a0  n :=
 cs_args hA (LSpec.callL (show LSpec Try.prog 22 #[vi a0] [] (Value.agg #[Value.string ⟨#[109, 111, 118, 101]⟩, vi (1 : Int), vi (1 : Int), vq]) [] from instr_kind_spec a0 N _ h) [] n [] rfl hnd hlt (show 0 ≤ 0 from by decide) (show ∀ j ∈ ([] : List Nat), j < 0 from by decide) (by rfl) trivial (by rfl) trivial trivial rfl rfl rfl rfl rfl)

noncomputable def instr_kindT4 (a0 : Int) (n : Nat) : Told := .call [] (Value.agg #[Value.string ⟨#[97, 100, 100]⟩, vi (1 : Int), vi (1 : Int), vi (1 : Int)]) [] 0
def instr_kindP4 (A : Array Value) (a0 : Int) (n : Nat) : Prop := CallSpec Try.prog 22 A [] (Value.agg #[Value.string ⟨#[97, 100, 100]⟩, vi (1 : Int), vi (1 : Int), vi (1 : Int)]) [] n 0

theorem instr_kindC4 (A : Array Value) (a0 : Int) (N : Nat) (h : instr_kind a0 N = some (.r4)) (n : Nat) (hA : A = #[vi a0]) (hnd : ([] : List Nat).Nodup) (hlt : ∀ k ∈ ([] : List Nat), k < n) : instr_kindP4 A a0  n :=
 cs_args hA (LSpec.callL (show LSpec Try.prog 22 #[vi a0] [] (Value.agg #[Value.string ⟨#[97, 100, 100]⟩, vi (1 : Int), vi (1 : Int), vi (1 : Int)]) [] from instr_kind_spec a0 N _ h) [] n [] rfl hnd hlt (show 0 ≤ 0 from by decide) (show ∀ j ∈ ([] : List Nat), j < 0 from by decide) (by rfl) trivial (by rfl) trivial trivial rfl rfl rfl rfl rfl)

noncomputable def instr_kindT5 (a0 : Int) (n : Nat) : Told := .call [] (Value.agg #[Value.string ⟨#[115, 117, 98]⟩, vi (1 : Int), vi (1 : Int), vi (1 : Int)]) [] 0
def instr_kindP5 (A : Array Value) (a0 : Int) (n : Nat) : Prop := CallSpec Try.prog 22 A [] (Value.agg #[Value.string ⟨#[115, 117, 98]⟩, vi (1 : Int), vi (1 : Int), vi (1 : Int)]) [] n 0

theorem instr_kindC5 (A : Array Value) (a0 : Int) (N : Nat) (h : instr_kind a0 N = some (.r5)) (n : Nat) (hA : A = #[vi a0]) (hnd : ([] : List Nat).Nodup) (hlt : ∀ k ∈ ([] : List Nat), k < n) : instr_kindP5 A a0  n :=
 cs_args hA (LSpec.callL (show LSpec Try.prog 22 #[vi a0] [] (Value.agg #[Value.string ⟨#[115, 117, 98]⟩, vi (1 : Int), vi (1 : Int), vi (1 : Int)]) [] from instr_kind_spec a0 N _ h) [] n [] rfl hnd hlt (show 0 ≤ 0 from by decide) (show ∀ j ∈ ([] : List Nat), j < 0 from by decide) (by rfl) trivial (by rfl) trivial trivial rfl rfl rfl rfl rfl)

noncomputable def instr_kindT6 (a0 : Int) (n : Nat) : Told := .call [] (Value.agg #[Value.string ⟨#[108, 101, 115, 115]⟩, vi (1 : Int), vi (1 : Int), vi (1 : Int)]) [] 0
def instr_kindP6 (A : Array Value) (a0 : Int) (n : Nat) : Prop := CallSpec Try.prog 22 A [] (Value.agg #[Value.string ⟨#[108, 101, 115, 115]⟩, vi (1 : Int), vi (1 : Int), vi (1 : Int)]) [] n 0

theorem instr_kindC6 (A : Array Value) (a0 : Int) (N : Nat) (h : instr_kind a0 N = some (.r6)) (n : Nat) (hA : A = #[vi a0]) (hnd : ([] : List Nat).Nodup) (hlt : ∀ k ∈ ([] : List Nat), k < n) : instr_kindP6 A a0  n :=
 cs_args hA (LSpec.callL (show LSpec Try.prog 22 #[vi a0] [] (Value.agg #[Value.string ⟨#[108, 101, 115, 115]⟩, vi (1 : Int), vi (1 : Int), vi (1 : Int)]) [] from instr_kind_spec a0 N _ h) [] n [] rfl hnd hlt (show 0 ≤ 0 from by decide) (show ∀ j ∈ ([] : List Nat), j < 0 from by decide) (by rfl) trivial (by rfl) trivial trivial rfl rfl rfl rfl rfl)

noncomputable def instr_kindT7 (a0 : Int) (n : Nat) : Told := .call [] (Value.agg #[Value.string ⟨#[101, 113]⟩, vi (1 : Int), vi (1 : Int), vi (1 : Int)]) [] 0
def instr_kindP7 (A : Array Value) (a0 : Int) (n : Nat) : Prop := CallSpec Try.prog 22 A [] (Value.agg #[Value.string ⟨#[101, 113]⟩, vi (1 : Int), vi (1 : Int), vi (1 : Int)]) [] n 0

theorem instr_kindC7 (A : Array Value) (a0 : Int) (N : Nat) (h : instr_kind a0 N = some (.r7)) (n : Nat) (hA : A = #[vi a0]) (hnd : ([] : List Nat).Nodup) (hlt : ∀ k ∈ ([] : List Nat), k < n) : instr_kindP7 A a0  n :=
 cs_args hA (LSpec.callL (show LSpec Try.prog 22 #[vi a0] [] (Value.agg #[Value.string ⟨#[101, 113]⟩, vi (1 : Int), vi (1 : Int), vi (1 : Int)]) [] from instr_kind_spec a0 N _ h) [] n [] rfl hnd hlt (show 0 ≤ 0 from by decide) (show ∀ j ∈ ([] : List Nat), j < 0 from by decide) (by rfl) trivial (by rfl) trivial trivial rfl rfl rfl rfl rfl)

noncomputable def instr_kindT8 (a0 : Int) (n : Nat) : Told := .call [] (Value.agg #[Value.string ⟨#[106, 117, 109, 112]⟩, vi (4 : Int), vq, vq]) [] 0
def instr_kindP8 (A : Array Value) (a0 : Int) (n : Nat) : Prop := CallSpec Try.prog 22 A [] (Value.agg #[Value.string ⟨#[106, 117, 109, 112]⟩, vi (4 : Int), vq, vq]) [] n 0

theorem instr_kindC8 (A : Array Value) (a0 : Int) (N : Nat) (h : instr_kind a0 N = some (.r8)) (n : Nat) (hA : A = #[vi a0]) (hnd : ([] : List Nat).Nodup) (hlt : ∀ k ∈ ([] : List Nat), k < n) : instr_kindP8 A a0  n :=
 cs_args hA (LSpec.callL (show LSpec Try.prog 22 #[vi a0] [] (Value.agg #[Value.string ⟨#[106, 117, 109, 112]⟩, vi (4 : Int), vq, vq]) [] from instr_kind_spec a0 N _ h) [] n [] rfl hnd hlt (show 0 ≤ 0 from by decide) (show ∀ j ∈ ([] : List Nat), j < 0 from by decide) (by rfl) trivial (by rfl) trivial trivial rfl rfl rfl rfl rfl)

noncomputable def instr_kindT9 (a0 : Int) (n : Nat) : Told := .call [] (Value.agg #[Value.string ⟨#[106, 117, 109, 112, 122]⟩, vi (1 : Int), vi (4 : Int), vq]) [] 0
def instr_kindP9 (A : Array Value) (a0 : Int) (n : Nat) : Prop := CallSpec Try.prog 22 A [] (Value.agg #[Value.string ⟨#[106, 117, 109, 112, 122]⟩, vi (1 : Int), vi (4 : Int), vq]) [] n 0

theorem instr_kindC9 (A : Array Value) (a0 : Int) (N : Nat) (h : instr_kind a0 N = some (.r9)) (n : Nat) (hA : A = #[vi a0]) (hnd : ([] : List Nat).Nodup) (hlt : ∀ k ∈ ([] : List Nat), k < n) : instr_kindP9 A a0  n :=
 cs_args hA (LSpec.callL (show LSpec Try.prog 22 #[vi a0] [] (Value.agg #[Value.string ⟨#[106, 117, 109, 112, 122]⟩, vi (1 : Int), vi (4 : Int), vq]) [] from instr_kind_spec a0 N _ h) [] n [] rfl hnd hlt (show 0 ≤ 0 from by decide) (show ∀ j ∈ ([] : List Nat), j < 0 from by decide) (by rfl) trivial (by rfl) trivial trivial rfl rfl rfl rfl rfl)

noncomputable def instr_kindT10 (a0 : Int) (n : Nat) : Told := .call [] (Value.agg #[Value.string ⟨#[114, 111, 111, 116]⟩, vi (1 : Int), vq, vq]) [] 0
def instr_kindP10 (A : Array Value) (a0 : Int) (n : Nat) : Prop := CallSpec Try.prog 22 A [] (Value.agg #[Value.string ⟨#[114, 111, 111, 116]⟩, vi (1 : Int), vq, vq]) [] n 0

theorem instr_kindC10 (A : Array Value) (a0 : Int) (N : Nat) (h : instr_kind a0 N = some (.r10)) (n : Nat) (hA : A = #[vi a0]) (hnd : ([] : List Nat).Nodup) (hlt : ∀ k ∈ ([] : List Nat), k < n) : instr_kindP10 A a0  n :=
 cs_args hA (LSpec.callL (show LSpec Try.prog 22 #[vi a0] [] (Value.agg #[Value.string ⟨#[114, 111, 111, 116]⟩, vi (1 : Int), vq, vq]) [] from instr_kind_spec a0 N _ h) [] n [] rfl hnd hlt (show 0 ≤ 0 from by decide) (show ∀ j ∈ ([] : List Nat), j < 0 from by decide) (by rfl) trivial (by rfl) trivial trivial rfl rfl rfl rfl rfl)

noncomputable def instr_kindT11 (a0 : Int) (n : Nat) : Told := .call [] (Value.agg #[Value.string ⟨#[110, 101, 119]⟩, vi (1 : Int), vi (3 : Int), vi (5 : Int)]) [] 0
def instr_kindP11 (A : Array Value) (a0 : Int) (n : Nat) : Prop := CallSpec Try.prog 22 A [] (Value.agg #[Value.string ⟨#[110, 101, 119]⟩, vi (1 : Int), vi (3 : Int), vi (5 : Int)]) [] n 0

theorem instr_kindC11 (A : Array Value) (a0 : Int) (N : Nat) (h : instr_kind a0 N = some (.r11)) (n : Nat) (hA : A = #[vi a0]) (hnd : ([] : List Nat).Nodup) (hlt : ∀ k ∈ ([] : List Nat), k < n) : instr_kindP11 A a0  n :=
 cs_args hA (LSpec.callL (show LSpec Try.prog 22 #[vi a0] [] (Value.agg #[Value.string ⟨#[110, 101, 119]⟩, vi (1 : Int), vi (3 : Int), vi (5 : Int)]) [] from instr_kind_spec a0 N _ h) [] n [] rfl hnd hlt (show 0 ≤ 0 from by decide) (show ∀ j ∈ ([] : List Nat), j < 0 from by decide) (by rfl) trivial (by rfl) trivial trivial rfl rfl rfl rfl rfl)

noncomputable def instr_kindT12 (a0 : Int) (n : Nat) : Told := .call [] (Value.agg #[Value.string ⟨#[102, 114, 101, 101]⟩, vi (1 : Int), vq, vq]) [] 0
def instr_kindP12 (A : Array Value) (a0 : Int) (n : Nat) : Prop := CallSpec Try.prog 22 A [] (Value.agg #[Value.string ⟨#[102, 114, 101, 101]⟩, vi (1 : Int), vq, vq]) [] n 0

theorem instr_kindC12 (A : Array Value) (a0 : Int) (N : Nat) (h : instr_kind a0 N = some (.r12)) (n : Nat) (hA : A = #[vi a0]) (hnd : ([] : List Nat).Nodup) (hlt : ∀ k ∈ ([] : List Nat), k < n) : instr_kindP12 A a0  n :=
 cs_args hA (LSpec.callL (show LSpec Try.prog 22 #[vi a0] [] (Value.agg #[Value.string ⟨#[102, 114, 101, 101]⟩, vi (1 : Int), vq, vq]) [] from instr_kind_spec a0 N _ h) [] n [] rfl hnd hlt (show 0 ≤ 0 from by decide) (show ∀ j ∈ ([] : List Nat), j < 0 from by decide) (by rfl) trivial (by rfl) trivial trivial rfl rfl rfl rfl rfl)

noncomputable def instr_kindT13 (a0 : Int) (n : Nat) : Told := .call [] (Value.agg #[Value.string ⟨#[103, 101, 116]⟩, vi (1 : Int), vi (1 : Int), vi (2 : Int)]) [] 0
def instr_kindP13 (A : Array Value) (a0 : Int) (n : Nat) : Prop := CallSpec Try.prog 22 A [] (Value.agg #[Value.string ⟨#[103, 101, 116]⟩, vi (1 : Int), vi (1 : Int), vi (2 : Int)]) [] n 0

theorem instr_kindC13 (A : Array Value) (a0 : Int) (N : Nat) (h : instr_kind a0 N = some (.r13)) (n : Nat) (hA : A = #[vi a0]) (hnd : ([] : List Nat).Nodup) (hlt : ∀ k ∈ ([] : List Nat), k < n) : instr_kindP13 A a0  n :=
 cs_args hA (LSpec.callL (show LSpec Try.prog 22 #[vi a0] [] (Value.agg #[Value.string ⟨#[103, 101, 116]⟩, vi (1 : Int), vi (1 : Int), vi (2 : Int)]) [] from instr_kind_spec a0 N _ h) [] n [] rfl hnd hlt (show 0 ≤ 0 from by decide) (show ∀ j ∈ ([] : List Nat), j < 0 from by decide) (by rfl) trivial (by rfl) trivial trivial rfl rfl rfl rfl rfl)

noncomputable def instr_kindT14 (a0 : Int) (n : Nat) : Told := .call [] (Value.agg #[Value.string ⟨#[115, 101, 116]⟩, vi (1 : Int), vi (2 : Int), vi (1 : Int)]) [] 0
def instr_kindP14 (A : Array Value) (a0 : Int) (n : Nat) : Prop := CallSpec Try.prog 22 A [] (Value.agg #[Value.string ⟨#[115, 101, 116]⟩, vi (1 : Int), vi (2 : Int), vi (1 : Int)]) [] n 0

theorem instr_kindC14 (A : Array Value) (a0 : Int) (N : Nat) (h : instr_kind a0 N = some (.r14)) (n : Nat) (hA : A = #[vi a0]) (hnd : ([] : List Nat).Nodup) (hlt : ∀ k ∈ ([] : List Nat), k < n) : instr_kindP14 A a0  n :=
 cs_args hA (LSpec.callL (show LSpec Try.prog 22 #[vi a0] [] (Value.agg #[Value.string ⟨#[115, 101, 116]⟩, vi (1 : Int), vi (2 : Int), vi (1 : Int)]) [] from instr_kind_spec a0 N _ h) [] n [] rfl hnd hlt (show 0 ≤ 0 from by decide) (show ∀ j ∈ ([] : List Nat), j < 0 from by decide) (by rfl) trivial (by rfl) trivial trivial rfl rfl rfl rfl rfl)

noncomputable def instr_kindT15 (a0 : Int) (n : Nat) : Told := .call [] (Value.agg #[Value.string ⟨#[98, 101, 103, 105, 110]⟩, vq, vq, vq]) [] 0
def instr_kindP15 (A : Array Value) (a0 : Int) (n : Nat) : Prop := CallSpec Try.prog 22 A [] (Value.agg #[Value.string ⟨#[98, 101, 103, 105, 110]⟩, vq, vq, vq]) [] n 0

theorem instr_kindC15 (A : Array Value) (a0 : Int) (N : Nat) (h : instr_kind a0 N = some (.r15)) (n : Nat) (hA : A = #[vi a0]) (hnd : ([] : List Nat).Nodup) (hlt : ∀ k ∈ ([] : List Nat), k < n) : instr_kindP15 A a0  n :=
 cs_args hA (LSpec.callL (show LSpec Try.prog 22 #[vi a0] [] (Value.agg #[Value.string ⟨#[98, 101, 103, 105, 110]⟩, vq, vq, vq]) [] from instr_kind_spec a0 N _ h) [] n [] rfl hnd hlt (show 0 ≤ 0 from by decide) (show ∀ j ∈ ([] : List Nat), j < 0 from by decide) (by rfl) trivial (by rfl) trivial trivial rfl rfl rfl rfl rfl)

noncomputable def instr_kindT16 (a0 : Int) (n : Nat) : Told := .call [] (Value.agg #[Value.string ⟨#[101, 108, 115, 101]⟩, vq, vq, vq]) [] 0
def instr_kindP16 (A : Array Value) (a0 : Int) (n : Nat) : Prop := CallSpec Try.prog 22 A [] (Value.agg #[Value.string ⟨#[101, 108, 115, 101]⟩, vq, vq, vq]) [] n 0

theorem instr_kindC16 (A : Array Value) (a0 : Int) (N : Nat) (h : instr_kind a0 N = some (.r16)) (n : Nat) (hA : A = #[vi a0]) (hnd : ([] : List Nat).Nodup) (hlt : ∀ k ∈ ([] : List Nat), k < n) : instr_kindP16 A a0  n :=
 cs_args hA (LSpec.callL (show LSpec Try.prog 22 #[vi a0] [] (Value.agg #[Value.string ⟨#[101, 108, 115, 101]⟩, vq, vq, vq]) [] from instr_kind_spec a0 N _ h) [] n [] rfl hnd hlt (show 0 ≤ 0 from by decide) (show ∀ j ∈ ([] : List Nat), j < 0 from by decide) (by rfl) trivial (by rfl) trivial trivial rfl rfl rfl rfl rfl)

noncomputable def instr_kindT17 (a0 : Int) (n : Nat) : Told := .call [] (Value.agg #[Value.string ⟨#[101, 110, 100]⟩, vq, vq, vq]) [] 0
def instr_kindP17 (A : Array Value) (a0 : Int) (n : Nat) : Prop := CallSpec Try.prog 22 A [] (Value.agg #[Value.string ⟨#[101, 110, 100]⟩, vq, vq, vq]) [] n 0

theorem instr_kindC17 (A : Array Value) (a0 : Int) (N : Nat) (h : instr_kind a0 N = some (.r17)) (n : Nat) (hA : A = #[vi a0]) (hnd : ([] : List Nat).Nodup) (hlt : ∀ k ∈ ([] : List Nat), k < n) : instr_kindP17 A a0  n :=
 cs_args hA (LSpec.callL (show LSpec Try.prog 22 #[vi a0] [] (Value.agg #[Value.string ⟨#[101, 110, 100]⟩, vq, vq, vq]) [] from instr_kind_spec a0 N _ h) [] n [] rfl hnd hlt (show 0 ≤ 0 from by decide) (show ∀ j ∈ ([] : List Nat), j < 0 from by decide) (by rfl) trivial (by rfl) trivial trivial rfl rfl rfl rfl rfl)

noncomputable def instr_kindT18 (a0 : Int) (n : Nat) : Told := .call [] (Value.agg #[Value.string ⟨#[114, 101, 116, 114, 121]⟩, vq, vq, vq]) [] 0
def instr_kindP18 (A : Array Value) (a0 : Int) (n : Nat) : Prop := CallSpec Try.prog 22 A [] (Value.agg #[Value.string ⟨#[114, 101, 116, 114, 121]⟩, vq, vq, vq]) [] n 0

theorem instr_kindC18 (A : Array Value) (a0 : Int) (N : Nat) (h : instr_kind a0 N = some (.r18)) (n : Nat) (hA : A = #[vi a0]) (hnd : ([] : List Nat).Nodup) (hlt : ∀ k ∈ ([] : List Nat), k < n) : instr_kindP18 A a0  n :=
 cs_args hA (LSpec.callL (show LSpec Try.prog 22 #[vi a0] [] (Value.agg #[Value.string ⟨#[114, 101, 116, 114, 121]⟩, vq, vq, vq]) [] from instr_kind_spec a0 N _ h) [] n [] rfl hnd hlt (show 0 ≤ 0 from by decide) (show ∀ j ∈ ([] : List Nat), j < 0 from by decide) (by rfl) trivial (by rfl) trivial trivial rfl rfl rfl rfl rfl)

noncomputable def instr_kindT19 (a0 : Int) (n : Nat) : Told := .call [] (Value.agg #[Value.string ⟨#[101, 109, 105, 116]⟩, vi (1 : Int), vq, vq]) [] 0
def instr_kindP19 (A : Array Value) (a0 : Int) (n : Nat) : Prop := CallSpec Try.prog 22 A [] (Value.agg #[Value.string ⟨#[101, 109, 105, 116]⟩, vi (1 : Int), vq, vq]) [] n 0

theorem instr_kindC19 (A : Array Value) (a0 : Int) (N : Nat) (h : instr_kind a0 N = some (.r19)) (n : Nat) (hA : A = #[vi a0]) (hnd : ([] : List Nat).Nodup) (hlt : ∀ k ∈ ([] : List Nat), k < n) : instr_kindP19 A a0  n :=
 cs_args hA (LSpec.callL (show LSpec Try.prog 22 #[vi a0] [] (Value.agg #[Value.string ⟨#[101, 109, 105, 116]⟩, vi (1 : Int), vq, vq]) [] from instr_kind_spec a0 N _ h) [] n [] rfl hnd hlt (show 0 ≤ 0 from by decide) (show ∀ j ∈ ([] : List Nat), j < 0 from by decide) (by rfl) trivial (by rfl) trivial trivial rfl rfl rfl rfl rfl)

noncomputable def instr_kindT20 (a0 : Int) (n : Nat) : Told := .call [] (Value.agg #[Value.string ⟨#[104, 97, 108, 116]⟩, vq, vq, vq]) [] 0
def instr_kindP20 (A : Array Value) (a0 : Int) (n : Nat) : Prop := CallSpec Try.prog 22 A [] (Value.agg #[Value.string ⟨#[104, 97, 108, 116]⟩, vq, vq, vq]) [] n 0

theorem instr_kindC20 (A : Array Value) (a0 : Int) (N : Nat) (h : instr_kind a0 N = some (.r20)) (n : Nat) (hA : A = #[vi a0]) (hnd : ([] : List Nat).Nodup) (hlt : ∀ k ∈ ([] : List Nat), k < n) : instr_kindP20 A a0  n :=
 cs_args hA (LSpec.callL (show LSpec Try.prog 22 #[vi a0] [] (Value.agg #[Value.string ⟨#[104, 97, 108, 116]⟩, vq, vq, vq]) [] from instr_kind_spec a0 N _ h) [] n [] rfl hnd hlt (show 0 ≤ 0 from by decide) (show ∀ j ∈ ([] : List Nat), j < 0 from by decide) (by rfl) trivial (by rfl) trivial trivial rfl rfl rfl rfl rfl)

noncomputable def instr_shape_fitsV (a0 a1 a2 : Int) : instr_shape_fitsR → Value
 | .r0 w0 => Value.bool w0
noncomputable def instr_shape_fitsPo (a0 a1 a2 : Int) : instr_shape_fitsR → List (Option AObj)
 | .r0 w0 => []

theorem instr_shape_fits_fx (a0 a1 a2 : Int) (N : Nat) : Fx Try.prog ext_Pk Try.f28 [] #[vi a0, vi a1, vi a2] (instr_shape_fitsV a0 a1 a2) (instr_shape_fitsPo a0 a1 a2) (instr_shape_fits a0 a1 a2 N) := by
 unfold instr_shape_fits
 refine fx_ite (fun g0 => ?_) (fun g0 => ?_)
 ·
  refine fx_ite (fun g1 => ?_) (fun g1 => ?_)
  ·
   refine fx_ite (fun g2 => ?_) (fun g2 => ?_)
   ·
    exact fx_fin (r := (.r0 (true) : instr_shape_fitsR)) (fu := 4000) (orc := (orcw [(0, true), (1, true), (2, true)] [] [] [] [])) (live := []) (u := vT) (bl := []) (ob := [((decide (a1 ≤ (7 : Int))), true), ((decide ((0 : Int) ≤ a1)), true), ((a0 == (1 : Int)), true)]) (by kernel_rfl) (oY <| oY <| oT obs_nil) rfl (by decide) (by rfl) rr trivial
   ·
    exact fx_fin (r := (.r0 (false) : instr_shape_fitsR)) (fu := 4000) (orc := (orcw [(0, true), (1, true), (2, false)] [] [] [] [])) (live := []) (u := vf) (bl := []) (ob := [((decide (a1 ≤ (7 : Int))), false), ((decide ((0 : Int) ≤ a1)), true), ((a0 == (1 : Int)), true)]) (by kernel_rfl) (oN <| oY <| oT obs_nil) rfl (by decide) (by rfl) rr trivial
  ·
   exact fx_fin (r := (.r0 (false) : instr_shape_fitsR)) (fu := 4000) (orc := (orcw [(0, true), (1, false)] [] [] [] [])) (live := []) (u := vf) (bl := []) (ob := [((decide ((0 : Int) ≤ a1)), false), ((a0 == (1 : Int)), true)]) (by kernel_rfl) (oN <| oT obs_nil) rfl (by decide) (by rfl) rr trivial
 ·
  refine fx_ite (fun g1 => ?_) (fun g1 => ?_)
  ·
   refine fx_ite (fun g2 => ?_) (fun g2 => ?_)
   ·
    refine fx_ite (fun g3 => ?_) (fun g3 => ?_)
    ·
     exact fx_fin (r := (.r0 (true) : instr_shape_fitsR)) (fu := 4000) (orc := (orcw [(0, false), (1, true), (2, true), (3, true)] [] [] [] [])) (live := []) (u := vT) (bl := []) (ob := [((decide (a1 ≤ (15 : Int))), true), ((decide ((0 : Int) ≤ a1)), true), ((a0 == (2 : Int)), true), ((a0 == (1 : Int)), false)]) (by kernel_rfl) (oY <| oY <| oT <| oF obs_nil) rfl (by decide) (by rfl) rr trivial
    ·
     exact fx_fin (r := (.r0 (false) : instr_shape_fitsR)) (fu := 4000) (orc := (orcw [(0, false), (1, true), (2, true), (3, false)] [] [] [] [])) (live := []) (u := vf) (bl := []) (ob := [((decide (a1 ≤ (15 : Int))), false), ((decide ((0 : Int) ≤ a1)), true), ((a0 == (2 : Int)), true), ((a0 == (1 : Int)), false)]) (by kernel_rfl) (oN <| oY <| oT <| oF obs_nil) rfl (by decide) (by rfl) rr trivial
   ·
    exact fx_fin (r := (.r0 (false) : instr_shape_fitsR)) (fu := 4000) (orc := (orcw [(0, false), (1, true), (2, false)] [] [] [] [])) (live := []) (u := vf) (bl := []) (ob := [((decide ((0 : Int) ≤ a1)), false), ((a0 == (2 : Int)), true), ((a0 == (1 : Int)), false)]) (by kernel_rfl) (oN <| oT <| oF obs_nil) rfl (by decide) (by rfl) rr trivial
  ·
   refine fx_ite (fun g2 => ?_) (fun g2 => ?_)
   ·
    refine fx_ite (fun g3 => ?_) (fun g3 => ?_)
    ·
     refine fx_ite (fun g4 => ?_) (fun g4 => ?_)
     ·
      exact fx_fin (r := (.r0 (true) : instr_shape_fitsR)) (fu := 4000) (orc := (orcw [(0, false), (1, false), (2, true), (3, true), (4, true)] [] [] [] [])) (live := []) (u := vT) (bl := []) (ob := [((decide (a1 ≤ (16 : Int))), true), ((decide ((1 : Int) ≤ a1)), true), ((a0 == (3 : Int)), true), ((a0 == (2 : Int)), false), ((a0 == (1 : Int)), false)]) (by kernel_rfl) (oY <| oY <| oT <| oF <| oF obs_nil) rfl (by decide) (by rfl) rr trivial
     ·
      exact fx_fin (r := (.r0 (false) : instr_shape_fitsR)) (fu := 4000) (orc := (orcw [(0, false), (1, false), (2, true), (3, true), (4, false)] [] [] [] [])) (live := []) (u := vf) (bl := []) (ob := [((decide (a1 ≤ (16 : Int))), false), ((decide ((1 : Int) ≤ a1)), true), ((a0 == (3 : Int)), true), ((a0 == (2 : Int)), false), ((a0 == (1 : Int)), false)]) (by kernel_rfl) (oN <| oY <| oT <| oF <| oF obs_nil) rfl (by decide) (by rfl) rr trivial
    ·
     exact fx_fin (r := (.r0 (false) : instr_shape_fitsR)) (fu := 4000) (orc := (orcw [(0, false), (1, false), (2, true), (3, false)] [] [] [] [])) (live := []) (u := vf) (bl := []) (ob := [((decide ((1 : Int) ≤ a1)), false), ((a0 == (3 : Int)), true), ((a0 == (2 : Int)), false), ((a0 == (1 : Int)), false)]) (by kernel_rfl) (oN <| oT <| oF <| oF obs_nil) rfl (by decide) (by rfl) rr trivial
   ·
    refine fx_ite (fun g3 => ?_) (fun g3 => ?_)
    ·
     refine fx_ite (fun g4 => ?_) (fun g4 => ?_)
     ·
      refine fx_ite (fun g5 => ?_) (fun g5 => ?_)
      ·
       exact fx_fin (r := (.r0 (true) : instr_shape_fitsR)) (fu := 4000) (orc := (orcw [(0, false), (1, false), (2, false), (3, true), (4, true), (5, true)] [] [] [] [])) (live := []) (u := vT) (bl := []) (ob := [((decide (a1 ≤ (512 : Int))), true), ((decide ((0 : Int) ≤ a1)), true), ((a0 == (4 : Int)), true), ((a0 == (3 : Int)), false), ((a0 == (2 : Int)), false), ((a0 == (1 : Int)), false)]) (by kernel_rfl) (oY <| oY <| oT <| oF <| oF <| oF obs_nil) rfl (by decide) (by rfl) rr trivial
      ·
       exact fx_fin (r := (.r0 (false) : instr_shape_fitsR)) (fu := 4000) (orc := (orcw [(0, false), (1, false), (2, false), (3, true), (4, true), (5, false)] [] [] [] [])) (live := []) (u := vf) (bl := []) (ob := [((decide (a1 ≤ (512 : Int))), false), ((decide ((0 : Int) ≤ a1)), true), ((a0 == (4 : Int)), true), ((a0 == (3 : Int)), false), ((a0 == (2 : Int)), false), ((a0 == (1 : Int)), false)]) (by kernel_rfl) (oN <| oY <| oT <| oF <| oF <| oF obs_nil) rfl (by decide) (by rfl) rr trivial
     ·
      exact fx_fin (r := (.r0 (false) : instr_shape_fitsR)) (fu := 4000) (orc := (orcw [(0, false), (1, false), (2, false), (3, true), (4, false)] [] [] [] [])) (live := []) (u := vf) (bl := []) (ob := [((decide ((0 : Int) ≤ a1)), false), ((a0 == (4 : Int)), true), ((a0 == (3 : Int)), false), ((a0 == (2 : Int)), false), ((a0 == (1 : Int)), false)]) (by kernel_rfl) (oN <| oT <| oF <| oF <| oF obs_nil) rfl (by decide) (by rfl) rr trivial
    ·
     refine fx_ite (fun g4 => ?_) (fun g4 => ?_)
     ·
      refine fx_ite (fun g5 => ?_) (fun g5 => ?_)
      ·
       refine fx_ite (fun g6 => ?_) (fun g6 => ?_)
       ·
        refine fx_ite (fun g7 => ?_) (fun g7 => ?_)
        ·
         refine fx_ite (fun g8 => ?_) (fun g8 => ?_)
         ·
          exact fx_fin (r := (.r0 (true) : instr_shape_fitsR)) (fu := 4000) (orc := (orcw [(0, false), (1, false), (2, false), (3, false), (4, true), (5, true), (6, true)] [] [] [] [(0, .sh (a2).toNat)])) (live := []) (u := vT) (bl := []) (ob := [((decide (a1 ≤ (IntKind.i64.wrap ((IntKind.i64.wrap ((1 : Int) * (2 ^ (a2).toNat : Int))) - (1 : Int))))), true), ((decide ((0 : Int) ≤ a1)), true), (dP (a2 = Int.ofNat (a2).toNat ∧ (a2).toNat ≤ IntKind.i64.bits), true), ((a0 == (5 : Int)), true), ((a0 == (4 : Int)), false), ((a0 == (3 : Int)), false), ((a0 == (2 : Int)), false), ((a0 == (1 : Int)), false)]) (by kernel_rfl) (oY <| oY <| obs_cons (dP_of ⟨by first | rfl | exact idx_eq (by omega), show _ ≤ 64 from by omega⟩) <| oT <| oF <| oF <| oF <| oF obs_nil) rfl (by decide) (by rfl) rr trivial
         ·
          exact fx_fin (r := (.r0 (false) : instr_shape_fitsR)) (fu := 4000) (orc := (orcw [(0, false), (1, false), (2, false), (3, false), (4, true), (5, true), (6, false)] [] [] [] [(0, .sh (a2).toNat)])) (live := []) (u := vf) (bl := []) (ob := [((decide (a1 ≤ (IntKind.i64.wrap ((IntKind.i64.wrap ((1 : Int) * (2 ^ (a2).toNat : Int))) - (1 : Int))))), false), ((decide ((0 : Int) ≤ a1)), true), (dP (a2 = Int.ofNat (a2).toNat ∧ (a2).toNat ≤ IntKind.i64.bits), true), ((a0 == (5 : Int)), true), ((a0 == (4 : Int)), false), ((a0 == (3 : Int)), false), ((a0 == (2 : Int)), false), ((a0 == (1 : Int)), false)]) (by kernel_rfl) (oN <| oY <| obs_cons (dP_of ⟨by first | rfl | exact idx_eq (by omega), show _ ≤ 64 from by omega⟩) <| oT <| oF <| oF <| oF <| oF obs_nil) rfl (by decide) (by rfl) rr trivial
        ·
         exact fx_fin (r := (.r0 (false) : instr_shape_fitsR)) (fu := 4000) (orc := (orcw [(0, false), (1, false), (2, false), (3, false), (4, true), (5, false)] [] [] [] [(0, .sh (a2).toNat)])) (live := []) (u := vf) (bl := []) (ob := [((decide ((0 : Int) ≤ a1)), false), (dP (a2 = Int.ofNat (a2).toNat ∧ (a2).toNat ≤ IntKind.i64.bits), true), ((a0 == (5 : Int)), true), ((a0 == (4 : Int)), false), ((a0 == (3 : Int)), false), ((a0 == (2 : Int)), false), ((a0 == (1 : Int)), false)]) (by kernel_rfl) (oN <| obs_cons (dP_of ⟨by first | rfl | exact idx_eq (by omega), show _ ≤ 64 from by omega⟩) <| oT <| oF <| oF <| oF <| oF obs_nil) rfl (by decide) (by rfl) rr trivial
       ·
        exact fx_none
      ·
       exact fx_none
     ·
      refine fx_ite (fun g5 => ?_) (fun g5 => ?_)
      ·
       refine fx_ite (fun g6 => ?_) (fun g6 => ?_)
       ·
        refine fx_ite (fun g7 => ?_) (fun g7 => ?_)
        ·
         exact fx_fin (r := (.r0 (true) : instr_shape_fitsR)) (fu := 4000) (orc := (orcw [(0, false), (1, false), (2, false), (3, false), (4, false), (5, true), (6, true), (7, true)] [] [] [] [])) (live := []) (u := vT) (bl := []) (ob := [((decide (a1 ≤ (1099511627776 : Int))), true), ((decide ((-1099511627776 : Int) ≤ a1)), true), ((a0 == (6 : Int)), true), ((a0 == (5 : Int)), false), ((a0 == (4 : Int)), false), ((a0 == (3 : Int)), false), ((a0 == (2 : Int)), false), ((a0 == (1 : Int)), false)]) (by kernel_rfl) (oY <| oY <| oT <| oF <| oF <| oF <| oF <| oF obs_nil) rfl (by decide) (by rfl) rr trivial
        ·
         exact fx_fin (r := (.r0 (false) : instr_shape_fitsR)) (fu := 4000) (orc := (orcw [(0, false), (1, false), (2, false), (3, false), (4, false), (5, true), (6, true), (7, false)] [] [] [] [])) (live := []) (u := vf) (bl := []) (ob := [((decide (a1 ≤ (1099511627776 : Int))), false), ((decide ((-1099511627776 : Int) ≤ a1)), true), ((a0 == (6 : Int)), true), ((a0 == (5 : Int)), false), ((a0 == (4 : Int)), false), ((a0 == (3 : Int)), false), ((a0 == (2 : Int)), false), ((a0 == (1 : Int)), false)]) (by kernel_rfl) (oN <| oY <| oT <| oF <| oF <| oF <| oF <| oF obs_nil) rfl (by decide) (by rfl) rr trivial
       ·
        exact fx_fin (r := (.r0 (false) : instr_shape_fitsR)) (fu := 4000) (orc := (orcw [(0, false), (1, false), (2, false), (3, false), (4, false), (5, true), (6, false)] [] [] [] [])) (live := []) (u := vf) (bl := []) (ob := [((decide ((-1099511627776 : Int) ≤ a1)), false), ((a0 == (6 : Int)), true), ((a0 == (5 : Int)), false), ((a0 == (4 : Int)), false), ((a0 == (3 : Int)), false), ((a0 == (2 : Int)), false), ((a0 == (1 : Int)), false)]) (by kernel_rfl) (oN <| oT <| oF <| oF <| oF <| oF <| oF obs_nil) rfl (by decide) (by rfl) rr trivial
      ·
       refine fx_ite (fun g6 => ?_) (fun g6 => ?_)
       ·
        refine fx_ite (fun g7 => ?_) (fun g7 => ?_)
        ·
         exact fx_fin (r := (.r0 (true) : instr_shape_fitsR)) (fu := 4000) (orc := (orcw [(0, false), (1, false), (2, false), (3, false), (4, false), (5, false), (6, true), (7, true)] [] [] [] [])) (live := []) (u := vT) (bl := []) (ob := [((decide (a1 ≤ (0 : Int))), true), ((decide ((0 : Int) ≤ a1)), true), ((a0 == (6 : Int)), false), ((a0 == (5 : Int)), false), ((a0 == (4 : Int)), false), ((a0 == (3 : Int)), false), ((a0 == (2 : Int)), false), ((a0 == (1 : Int)), false)]) (by kernel_rfl) (oY <| oY <| oF <| oF <| oF <| oF <| oF <| oF obs_nil) rfl (by decide) (by rfl) rr trivial
        ·
         exact fx_fin (r := (.r0 (false) : instr_shape_fitsR)) (fu := 4000) (orc := (orcw [(0, false), (1, false), (2, false), (3, false), (4, false), (5, false), (6, true), (7, false)] [] [] [] [])) (live := []) (u := vf) (bl := []) (ob := [((decide (a1 ≤ (0 : Int))), false), ((decide ((0 : Int) ≤ a1)), true), ((a0 == (6 : Int)), false), ((a0 == (5 : Int)), false), ((a0 == (4 : Int)), false), ((a0 == (3 : Int)), false), ((a0 == (2 : Int)), false), ((a0 == (1 : Int)), false)]) (by kernel_rfl) (oN <| oY <| oF <| oF <| oF <| oF <| oF <| oF obs_nil) rfl (by decide) (by rfl) rr trivial
       ·
        exact fx_fin (r := (.r0 (false) : instr_shape_fitsR)) (fu := 4000) (orc := (orcw [(0, false), (1, false), (2, false), (3, false), (4, false), (5, false), (6, false)] [] [] [] [])) (live := []) (u := vf) (bl := []) (ob := [((decide ((0 : Int) ≤ a1)), false), ((a0 == (6 : Int)), false), ((a0 == (5 : Int)), false), ((a0 == (4 : Int)), false), ((a0 == (3 : Int)), false), ((a0 == (2 : Int)), false), ((a0 == (1 : Int)), false)]) (by kernel_rfl) (oN <| oF <| oF <| oF <| oF <| oF <| oF obs_nil) rfl (by decide) (by rfl) rr trivial

theorem instr_shape_fits_spec (a0 a1 a2 : Int) (N : Nat) (r : instr_shape_fitsR) (h : instr_shape_fits a0 a1 a2 N = some r) : LSpec Try.prog 28 #[vi a0, vi a1, vi a2] [] (instr_shape_fitsV a0 a1 a2 r) (instr_shape_fitsPo a0 a1 a2 r) :=
 fx_spec fit_Pk Try.func28 (by kernel_rfl) (by kernel_rfl) (fun r => by cases r <;> exact le_far _ rfl) (instr_shape_fits_fx a0 a1 a2 N) h

noncomputable def instr_shape_fitsT0 (a0 a1 a2 : Int) (w0 : Bool) (n : Nat) : Told := .call [] (Value.bool w0) [] 0
def instr_shape_fitsP0 (A : Array Value) (a0 a1 a2 : Int) (w0 : Bool) (n : Nat) : Prop := CallSpec Try.prog 28 A [] (Value.bool w0) [] n 0

theorem instr_shape_fitsC0 (A : Array Value) (a0 a1 a2 : Int) (w0 : Bool) (N : Nat) (h : instr_shape_fits a0 a1 a2 N = some (.r0 w0)) (n : Nat) (hA : A = #[vi a0, vi a1, vi a2]) (hnd : ([] : List Nat).Nodup) (hlt : ∀ k ∈ ([] : List Nat), k < n) : instr_shape_fitsP0 A a0 a1 a2 w0  n :=
 cs_args hA (LSpec.callL (show LSpec Try.prog 28 #[vi a0, vi a1, vi a2] [] (Value.bool w0) [] from instr_shape_fits_spec a0 a1 a2 N _ h) [] n [] rfl hnd hlt (show 0 ≤ 0 from by decide) (show ∀ j ∈ ([] : List Nat), j < 0 from by decide) (by rfl) trivial (by rfl) trivial trivial rfl rfl rfl rfl rfl)

noncomputable def instr_CheckV (a0 a1 a2 a3 : Int) : instr_CheckR → Value
 | .r0 w0 => vi w0
noncomputable def instr_CheckPo (a0 a1 a2 a3 : Int) : instr_CheckR → List (Option AObj)
 | .r0 w0 => []

def instr_CheckHd : instr_CheckX → Nat
 | .h1m0 v1 v2 v3 => 1
 | .h1m1 v1 v2 v3 => 1
 | .h1m2 v1 v2 v3 => 1
 | .h1m3 v1 v2 v3 => 1
noncomputable def instr_CheckL (a0 a1 a2 a3 : Int) : instr_CheckX → List (Nat × Value)
 | .h1m0 v1 v2 v3 => [(4, vp 0 0), (5, vq), (22, Value.agg #[vi (v1 : Int), vi (v2 : Int), vi (v3 : Int)]), (23, vq)]
 | .h1m1 v1 v2 v3 => [(4, vp 0 0), (5, vi a1), (22, Value.agg #[vi (v1 : Int), vi (v2 : Int), vi (v3 : Int)]), (23, vi (1 : Int))]
 | .h1m2 v1 v2 v3 => [(4, vp 0 0), (5, vi a2), (22, Value.agg #[vi (v1 : Int), vi (v2 : Int), vi (v3 : Int)]), (23, vi (2 : Int))]
 | .h1m3 v1 v2 v3 => [(4, vp 0 0), (5, vi a3), (22, Value.agg #[vi (v1 : Int), vi (v2 : Int), vi (v3 : Int)]), (23, vi (3 : Int))]
noncomputable def instr_CheckH (a0 a1 a2 a3 : Int) : instr_CheckX → List (Option AObj)
 | .h1m0 v1 v2 v3 => [some (.cells [vi a1, vi a2, vi a3] 51)]
 | .h1m1 v1 v2 v3 => [some (.cells [vi a1, vi a2, vi a3] 51)]
 | .h1m2 v1 v2 v3 => [some (.cells [vi a1, vi a2, vi a3] 51)]
 | .h1m3 v1 v2 v3 => [some (.cells [vi a1, vi a2, vi a3] 51)]

noncomputable def instr_CheckC : Nat → Code × List Kont
 | 1 => headOf [1, 1, 1, 1, 1, 0, 1, 3] (bodyC Try.f20) []
 | _ => (.skip, [])
def instr_CheckIL : Nat → Bool
 | 1 => true
 | _ => true
noncomputable def instr_CheckK (i : Nat) : List Kont := match instr_CheckIL i with | true => .rnd i :: (instr_CheckC i).2 | false => (instr_CheckC i).2

noncomputable def instr_CheckM (a0 a1 a2 a3 : Int) (N : Nat) : Mach := ⟨Try.f20, [], instr_CheckX, instr_CheckR, instr_CheckStep a0 a1 a2 a3 N, instr_CheckHd, instr_CheckC, instr_CheckIL, instr_CheckL a0 a1 a2 a3, instr_CheckH a0 a1 a2 a3, instr_CheckV a0 a1 a2 a3, instr_CheckPo a0 a1 a2 a3⟩

theorem instr_Check_ok1_0 (a0 a1 a2 a3 : Int) (v1 v2 v3 N : Nat) : (instr_CheckM a0 a1 a2 a3 N).Ok Try.prog ext_Pk (.h1m0 v1 v2 v3 : instr_CheckX) (instr_CheckStep a0 a1 a2 a3 N (.h1m0 v1 v2 v3 : instr_CheckX)) := by
 show (instr_CheckM a0 a1 a2 a3 N).Ok Try.prog ext_Pk (.h1m0 v1 v2 v3 : instr_CheckX) (instr_Check_h1m0 a0 a1 a2 a3 N v1 v2 v3)
 unfold instr_Check_h1m0
 refine Mach.ok_bind (fun z0 c0 => ?_)
 cases z0 with
 | r0 y0_0 =>
  refine Mach.ok_ite (fun g1 => ?_) (fun g1 => ?_)
  ·
   exact Mach.ok_fin (M := instr_CheckM a0 a1 a2 a3 N) (cd := 1000000) (cm := 0) (r := (.r0 ((100 : Int)) : instr_CheckR)) (fu := 4000) (orc := (orcw [(1, true)] [] [] [] [(0, (instr_shape_fitsT0 ((v1 : Int)) (a1) ((0 : Int))  y0_0  1))])) (live := []) (u := vi (100 : Int)) (bl := []) (ob := [((!y0_0), true), (dP (instr_shape_fitsP0 #[vi (v1 : Int), vi a1, vq] ((v1 : Int)) (a1) ((0 : Int))  y0_0  1), true)]) (fun gv => by kernel_rfl) (obs_cons (notB_t (by first | assumption | simp_all)) <| obs_cons (dP_of (instr_shape_fitsC0 #[vi (v1 : Int), vi a1, vq] ((v1 : Int)) (a1) ((0 : Int))  y0_0 N c0  1 rfl (by decide) (by decide))) obs_nil) rfl (by decide) (by rfl) rr trivial
  ·
   exact Mach.ok_next (M := instr_CheckM a0 a1 a2 a3 N) (cd := 1000000) (cm := 0) (y := (.h1m1 (v1) (v2) (v3) : instr_CheckX)) (fu := 4000) (orc := (orcw [(1, false)] [] [] [] [(0, (instr_shape_fitsT0 ((v1 : Int)) (a1) ((0 : Int))  y0_0  1))])) (live := [0]) (tv := fun _ => [some (vp 0 0), some (vi a1), some (Value.agg #[vi (v1 : Int), vi (v2 : Int), vi (v3 : Int)]), some (vi (1 : Int))]) (bl := [some (.cells [vi a1, vi a2, vi a3] 51)]) (ob := [((!y0_0), false), (dP (instr_shape_fitsP0 #[vi (v1 : Int), vi a1, vq] ((v1 : Int)) (a1) ((0 : Int))  y0_0  1), true)]) rfl (show 1 ∈ rids (instr_CheckK 1) from by decide +kernel) (fun gv => by kernel_rfl) (obs_cons (notB_f (by first | assumption | exact Decidable.not_not.1 (by assumption) | simp_all)) <| obs_cons (dP_of (instr_shape_fitsC0 #[vi (v1 : Int), vi a1, vq] ((v1 : Int)) (a1) ((0 : Int))  y0_0 N c0  1 rfl (by decide) (by decide))) obs_nil) rfl (by decide) (by rfl) (fun _ => ⟨rr, ⟨rr, ⟨rr, ⟨rr, trivial⟩⟩⟩⟩) ⟨⟨rfl, ⟨[], by rfl⟩, by rfl⟩, trivial⟩

theorem instr_Check_ok1_1 (a0 a1 a2 a3 : Int) (v1 v2 v3 N : Nat) : (instr_CheckM a0 a1 a2 a3 N).Ok Try.prog ext_Pk (.h1m1 v1 v2 v3 : instr_CheckX) (instr_CheckStep a0 a1 a2 a3 N (.h1m1 v1 v2 v3 : instr_CheckX)) := by
 show (instr_CheckM a0 a1 a2 a3 N).Ok Try.prog ext_Pk (.h1m1 v1 v2 v3 : instr_CheckX) (instr_Check_h1m1 a0 a1 a2 a3 N v1 v2 v3)
 unfold instr_Check_h1m1
 refine Mach.ok_bind (fun z0 c0 => ?_)
 cases z0 with
 | r0 y0_0 =>
  refine Mach.ok_ite (fun g1 => ?_) (fun g1 => ?_)
  ·
   exact Mach.ok_fin (M := instr_CheckM a0 a1 a2 a3 N) (cd := 1000000) (cm := 0) (r := (.r0 ((100 : Int)) : instr_CheckR)) (fu := 4000) (orc := (orcw [(1, true)] [] [] [] [(0, (instr_shape_fitsT0 ((v2 : Int)) (a2) (a1)  y0_0  1))])) (live := []) (u := vi (100 : Int)) (bl := []) (ob := [((!y0_0), true), (dP (instr_shape_fitsP0 #[vi (v2 : Int), vi a2, vi a1] ((v2 : Int)) (a2) (a1)  y0_0  1), true)]) (fun gv => by kernel_rfl) (obs_cons (notB_t (by first | assumption | simp_all)) <| obs_cons (dP_of (instr_shape_fitsC0 #[vi (v2 : Int), vi a2, vi a1] ((v2 : Int)) (a2) (a1)  y0_0 N c0  1 rfl (by decide) (by decide))) obs_nil) rfl (by decide) (by rfl) rr trivial
  ·
   exact Mach.ok_next (M := instr_CheckM a0 a1 a2 a3 N) (cd := 1000000) (cm := 0) (y := (.h1m2 (v1) (v2) (v3) : instr_CheckX)) (fu := 4000) (orc := (orcw [(1, false)] [] [] [] [(0, (instr_shape_fitsT0 ((v2 : Int)) (a2) (a1)  y0_0  1))])) (live := [0]) (tv := fun _ => [some (vp 0 0), some (vi a2), some (Value.agg #[vi (v1 : Int), vi (v2 : Int), vi (v3 : Int)]), some (vi (2 : Int))]) (bl := [some (.cells [vi a1, vi a2, vi a3] 51)]) (ob := [((!y0_0), false), (dP (instr_shape_fitsP0 #[vi (v2 : Int), vi a2, vi a1] ((v2 : Int)) (a2) (a1)  y0_0  1), true)]) rfl (show 1 ∈ rids (instr_CheckK 1) from by decide +kernel) (fun gv => by kernel_rfl) (obs_cons (notB_f (by first | assumption | exact Decidable.not_not.1 (by assumption) | simp_all)) <| obs_cons (dP_of (instr_shape_fitsC0 #[vi (v2 : Int), vi a2, vi a1] ((v2 : Int)) (a2) (a1)  y0_0 N c0  1 rfl (by decide) (by decide))) obs_nil) rfl (by decide) (by rfl) (fun _ => ⟨rr, ⟨rr, ⟨rr, ⟨rr, trivial⟩⟩⟩⟩) ⟨⟨rfl, ⟨[], by rfl⟩, by rfl⟩, trivial⟩

theorem instr_Check_ok1_2 (a0 a1 a2 a3 : Int) (v1 v2 v3 N : Nat) : (instr_CheckM a0 a1 a2 a3 N).Ok Try.prog ext_Pk (.h1m2 v1 v2 v3 : instr_CheckX) (instr_CheckStep a0 a1 a2 a3 N (.h1m2 v1 v2 v3 : instr_CheckX)) := by
 show (instr_CheckM a0 a1 a2 a3 N).Ok Try.prog ext_Pk (.h1m2 v1 v2 v3 : instr_CheckX) (instr_Check_h1m2 a0 a1 a2 a3 N v1 v2 v3)
 unfold instr_Check_h1m2
 refine Mach.ok_bind (fun z0 c0 => ?_)
 cases z0 with
 | r0 y0_0 =>
  refine Mach.ok_ite (fun g1 => ?_) (fun g1 => ?_)
  ·
   exact Mach.ok_fin (M := instr_CheckM a0 a1 a2 a3 N) (cd := 1000000) (cm := 0) (r := (.r0 ((100 : Int)) : instr_CheckR)) (fu := 4000) (orc := (orcw [(1, true)] [] [] [] [(0, (instr_shape_fitsT0 ((v3 : Int)) (a3) (a2)  y0_0  1))])) (live := []) (u := vi (100 : Int)) (bl := []) (ob := [((!y0_0), true), (dP (instr_shape_fitsP0 #[vi (v3 : Int), vi a3, vi a2] ((v3 : Int)) (a3) (a2)  y0_0  1), true)]) (fun gv => by kernel_rfl) (obs_cons (notB_t (by first | assumption | simp_all)) <| obs_cons (dP_of (instr_shape_fitsC0 #[vi (v3 : Int), vi a3, vi a2] ((v3 : Int)) (a3) (a2)  y0_0 N c0  1 rfl (by decide) (by decide))) obs_nil) rfl (by decide) (by rfl) rr trivial
  ·
   exact Mach.ok_next (M := instr_CheckM a0 a1 a2 a3 N) (cd := 1000000) (cm := 0) (y := (.h1m3 (v1) (v2) (v3) : instr_CheckX)) (fu := 4000) (orc := (orcw [(1, false)] [] [] [] [(0, (instr_shape_fitsT0 ((v3 : Int)) (a3) (a2)  y0_0  1))])) (live := [0]) (tv := fun _ => [some (vp 0 0), some (vi a3), some (Value.agg #[vi (v1 : Int), vi (v2 : Int), vi (v3 : Int)]), some (vi (3 : Int))]) (bl := [some (.cells [vi a1, vi a2, vi a3] 51)]) (ob := [((!y0_0), false), (dP (instr_shape_fitsP0 #[vi (v3 : Int), vi a3, vi a2] ((v3 : Int)) (a3) (a2)  y0_0  1), true)]) rfl (show 1 ∈ rids (instr_CheckK 1) from by decide +kernel) (fun gv => by kernel_rfl) (obs_cons (notB_f (by first | assumption | exact Decidable.not_not.1 (by assumption) | simp_all)) <| obs_cons (dP_of (instr_shape_fitsC0 #[vi (v3 : Int), vi a3, vi a2] ((v3 : Int)) (a3) (a2)  y0_0 N c0  1 rfl (by decide) (by decide))) obs_nil) rfl (by decide) (by rfl) (fun _ => ⟨rr, ⟨rr, ⟨rr, ⟨rr, trivial⟩⟩⟩⟩) ⟨⟨rfl, ⟨[], by rfl⟩, by rfl⟩, trivial⟩

theorem instr_Check_ok1_3 (a0 a1 a2 a3 : Int) (v1 v2 v3 N : Nat) : (instr_CheckM a0 a1 a2 a3 N).Ok Try.prog ext_Pk (.h1m3 v1 v2 v3 : instr_CheckX) (instr_CheckStep a0 a1 a2 a3 N (.h1m3 v1 v2 v3 : instr_CheckX)) := by
 show (instr_CheckM a0 a1 a2 a3 N).Ok Try.prog ext_Pk (.h1m3 v1 v2 v3 : instr_CheckX) (instr_Check_h1m3 a0 a1 a2 a3 N v1 v2 v3)
 unfold instr_Check_h1m3
 exact Mach.ok_fin (M := instr_CheckM a0 a1 a2 a3 N) (cd := 1000000) (cm := 0) (r := (.r0 ((0 : Int)) : instr_CheckR)) (fu := 4000) (orc := (orcw [] [] [] [] [])) (live := []) (u := vq) (bl := []) (ob := []) (fun gv => by kernel_rfl) obs_nil rfl (by decide) (by rfl) rr trivial

theorem instr_Check_en (a0 a1 a2 a3 : Int) (N : Nat) : (instr_CheckM a0 a1 a2 a3 N).Enter Try.prog ext_Pk #[Value.agg #[vi a0, vi a1, vi a2, vi a3]] (instr_CheckIn a0 a1 a2 a3 N) := by
 unfold instr_CheckIn
 refine Mach.en_bind (fun z0 c0 => ?_)
 cases z0 with
 | r0 =>
  exact Mach.en_fin (M := instr_CheckM a0 a1 a2 a3 N) (cd := 1000000) (cm := 0) (r := (.r0 ((100 : Int)) : instr_CheckR)) (fu := 4000) (orc := (orcw [] [] [] [] [(0, (instr_kindT0 (a0)    1))])) (live := []) (u := vi (100 : Int)) (bl := []) (ob := [(dP (instr_kindP0 #[vi a0] (a0)    1), true)]) (by kernel_rfl) (obs_cons (dP_of (instr_kindC0 #[vi a0] (a0)   N c0  1 rfl (by decide) (by decide))) obs_nil) rfl (by decide) (by rfl) rr trivial
 | r1 =>
  exact Mach.en_head (bK := instr_CheckC 1) (M := instr_CheckM a0 a1 a2 a3 N) (cd := 1000000) (cm := 0) (y := (.h1m0 (1) (6) (0) : instr_CheckX)) (fu := 4000) (orc := (orcw [] [] [] [] [(0, (instr_kindT1 (a0)    1))])) (live := [2]) (tv := [some (vp 2 0), some (vq), some (Value.agg #[vi (1 : Int), vi (6 : Int), vq]), some (vq)]) (bl := [some (.cells [vi a1, vi a2, vi a3] 51)]) (ob := [(dP (instr_kindP1 #[vi a0] (a0)    1), true)]) rfl rfl (show rids (instr_CheckC 1).2 = [] from rfl) (by kernel_rfl) (obs_cons (dP_of (instr_kindC1 #[vi a0] (a0)   N c0  1 rfl (by decide) (by decide))) obs_nil) rfl (by decide) (by rfl) ⟨rr, ⟨rr, ⟨⟨Eq.trans (show (Value.agg #[vi ((1 : Nat) : Int), vi ((6 : Nat) : Int), vi ((0 : Nat) : Int)] : Value) = Value.agg #[vi (1 : Int), vi (6 : Int), vq] from (agg_eq (cons_eq (congrArg (Value.int .i64) (by first | rfl | omega)) (cons_eq (congrArg (Value.int .i64) (by first | rfl | omega)) (cons_eq (congrArg (Value.int .i64) (by first | rfl | omega)) rfl))))) (by rfl), by rfl⟩, ⟨rr, trivial⟩⟩⟩⟩ ⟨⟨rfl, ⟨[], by rfl⟩, by rfl⟩, trivial⟩
 | r2 =>
  exact Mach.en_head (bK := instr_CheckC 1) (M := instr_CheckM a0 a1 a2 a3 N) (cd := 1000000) (cm := 0) (y := (.h1m0 (1) (0) (0) : instr_CheckX)) (fu := 4000) (orc := (orcw [] [] [] [] [(0, (instr_kindT2 (a0)    1))])) (live := [2]) (tv := [some (vp 2 0), some (vq), some (Value.agg #[vi (1 : Int), vq, vq]), some (vq)]) (bl := [some (.cells [vi a1, vi a2, vi a3] 51)]) (ob := [(dP (instr_kindP2 #[vi a0] (a0)    1), true)]) rfl rfl (show rids (instr_CheckC 1).2 = [] from rfl) (by kernel_rfl) (obs_cons (dP_of (instr_kindC2 #[vi a0] (a0)   N c0  1 rfl (by decide) (by decide))) obs_nil) rfl (by decide) (by rfl) ⟨rr, ⟨rr, ⟨⟨Eq.trans (show (Value.agg #[vi ((1 : Nat) : Int), vi ((0 : Nat) : Int), vi ((0 : Nat) : Int)] : Value) = Value.agg #[vi (1 : Int), vq, vq] from (agg_eq (cons_eq (congrArg (Value.int .i64) (by first | rfl | omega)) (cons_eq (congrArg (Value.int .i64) (by first | rfl | omega)) (cons_eq (congrArg (Value.int .i64) (by first | rfl | omega)) rfl))))) (by rfl), by rfl⟩, ⟨rr, trivial⟩⟩⟩⟩ ⟨⟨rfl, ⟨[], by rfl⟩, by rfl⟩, trivial⟩
 | r3 =>
  exact Mach.en_head (bK := instr_CheckC 1) (M := instr_CheckM a0 a1 a2 a3 N) (cd := 1000000) (cm := 0) (y := (.h1m0 (1) (1) (0) : instr_CheckX)) (fu := 4000) (orc := (orcw [] [] [] [] [(0, (instr_kindT3 (a0)    1))])) (live := [2]) (tv := [some (vp 2 0), some (vq), some (Value.agg #[vi (1 : Int), vi (1 : Int), vq]), some (vq)]) (bl := [some (.cells [vi a1, vi a2, vi a3] 51)]) (ob := [(dP (instr_kindP3 #[vi a0] (a0)    1), true)]) rfl rfl (show rids (instr_CheckC 1).2 = [] from rfl) (by kernel_rfl) (obs_cons (dP_of (instr_kindC3 #[vi a0] (a0)   N c0  1 rfl (by decide) (by decide))) obs_nil) rfl (by decide) (by rfl) ⟨rr, ⟨rr, ⟨⟨Eq.trans (show (Value.agg #[vi ((1 : Nat) : Int), vi ((1 : Nat) : Int), vi ((0 : Nat) : Int)] : Value) = Value.agg #[vi (1 : Int), vi (1 : Int), vq] from (agg_eq (cons_eq (congrArg (Value.int .i64) (by first | rfl | omega)) (cons_eq (congrArg (Value.int .i64) (by first | rfl | omega)) (cons_eq (congrArg (Value.int .i64) (by first | rfl | omega)) rfl))))) (by rfl), by rfl⟩, ⟨rr, trivial⟩⟩⟩⟩ ⟨⟨rfl, ⟨[], by rfl⟩, by rfl⟩, trivial⟩
 | r4 =>
  exact Mach.en_head (bK := instr_CheckC 1) (M := instr_CheckM a0 a1 a2 a3 N) (cd := 1000000) (cm := 0) (y := (.h1m0 (1) (1) (1) : instr_CheckX)) (fu := 4000) (orc := (orcw [] [] [] [] [(0, (instr_kindT4 (a0)    1))])) (live := [2]) (tv := [some (vp 2 0), some (vq), some (Value.agg #[vi (1 : Int), vi (1 : Int), vi (1 : Int)]), some (vq)]) (bl := [some (.cells [vi a1, vi a2, vi a3] 51)]) (ob := [(dP (instr_kindP4 #[vi a0] (a0)    1), true)]) rfl rfl (show rids (instr_CheckC 1).2 = [] from rfl) (by kernel_rfl) (obs_cons (dP_of (instr_kindC4 #[vi a0] (a0)   N c0  1 rfl (by decide) (by decide))) obs_nil) rfl (by decide) (by rfl) ⟨rr, ⟨rr, ⟨⟨Eq.trans (show (Value.agg #[vi ((1 : Nat) : Int), vi ((1 : Nat) : Int), vi ((1 : Nat) : Int)] : Value) = Value.agg #[vi (1 : Int), vi (1 : Int), vi (1 : Int)] from (agg_eq (cons_eq (congrArg (Value.int .i64) (by first | rfl | omega)) (cons_eq (congrArg (Value.int .i64) (by first | rfl | omega)) (cons_eq (congrArg (Value.int .i64) (by first | rfl | omega)) rfl))))) (by rfl), by rfl⟩, ⟨rr, trivial⟩⟩⟩⟩ ⟨⟨rfl, ⟨[], by rfl⟩, by rfl⟩, trivial⟩
 | r5 =>
  exact Mach.en_head (bK := instr_CheckC 1) (M := instr_CheckM a0 a1 a2 a3 N) (cd := 1000000) (cm := 0) (y := (.h1m0 (1) (1) (1) : instr_CheckX)) (fu := 4000) (orc := (orcw [] [] [] [] [(0, (instr_kindT5 (a0)    1))])) (live := [2]) (tv := [some (vp 2 0), some (vq), some (Value.agg #[vi (1 : Int), vi (1 : Int), vi (1 : Int)]), some (vq)]) (bl := [some (.cells [vi a1, vi a2, vi a3] 51)]) (ob := [(dP (instr_kindP5 #[vi a0] (a0)    1), true)]) rfl rfl (show rids (instr_CheckC 1).2 = [] from rfl) (by kernel_rfl) (obs_cons (dP_of (instr_kindC5 #[vi a0] (a0)   N c0  1 rfl (by decide) (by decide))) obs_nil) rfl (by decide) (by rfl) ⟨rr, ⟨rr, ⟨⟨Eq.trans (show (Value.agg #[vi ((1 : Nat) : Int), vi ((1 : Nat) : Int), vi ((1 : Nat) : Int)] : Value) = Value.agg #[vi (1 : Int), vi (1 : Int), vi (1 : Int)] from (agg_eq (cons_eq (congrArg (Value.int .i64) (by first | rfl | omega)) (cons_eq (congrArg (Value.int .i64) (by first | rfl | omega)) (cons_eq (congrArg (Value.int .i64) (by first | rfl | omega)) rfl))))) (by rfl), by rfl⟩, ⟨rr, trivial⟩⟩⟩⟩ ⟨⟨rfl, ⟨[], by rfl⟩, by rfl⟩, trivial⟩
 | r6 =>
  exact Mach.en_head (bK := instr_CheckC 1) (M := instr_CheckM a0 a1 a2 a3 N) (cd := 1000000) (cm := 0) (y := (.h1m0 (1) (1) (1) : instr_CheckX)) (fu := 4000) (orc := (orcw [] [] [] [] [(0, (instr_kindT6 (a0)    1))])) (live := [2]) (tv := [some (vp 2 0), some (vq), some (Value.agg #[vi (1 : Int), vi (1 : Int), vi (1 : Int)]), some (vq)]) (bl := [some (.cells [vi a1, vi a2, vi a3] 51)]) (ob := [(dP (instr_kindP6 #[vi a0] (a0)    1), true)]) rfl rfl (show rids (instr_CheckC 1).2 = [] from rfl) (by kernel_rfl) (obs_cons (dP_of (instr_kindC6 #[vi a0] (a0)   N c0  1 rfl (by decide) (by decide))) obs_nil) rfl (by decide) (by rfl) ⟨rr, ⟨rr, ⟨⟨Eq.trans (show (Value.agg #[vi ((1 : Nat) : Int), vi ((1 : Nat) : Int), vi ((1 : Nat) : Int)] : Value) = Value.agg #[vi (1 : Int), vi (1 : Int), vi (1 : Int)] from (agg_eq (cons_eq (congrArg (Value.int .i64) (by first | rfl | omega)) (cons_eq (congrArg (Value.int .i64) (by first | rfl | omega)) (cons_eq (congrArg (Value.int .i64) (by first | rfl | omega)) rfl))))) (by rfl), by rfl⟩, ⟨rr, trivial⟩⟩⟩⟩ ⟨⟨rfl, ⟨[], by rfl⟩, by rfl⟩, trivial⟩
 | r7 =>
  exact Mach.en_head (bK := instr_CheckC 1) (M := instr_CheckM a0 a1 a2 a3 N) (cd := 1000000) (cm := 0) (y := (.h1m0 (1) (1) (1) : instr_CheckX)) (fu := 4000) (orc := (orcw [] [] [] [] [(0, (instr_kindT7 (a0)    1))])) (live := [2]) (tv := [some (vp 2 0), some (vq), some (Value.agg #[vi (1 : Int), vi (1 : Int), vi (1 : Int)]), some (vq)]) (bl := [some (.cells [vi a1, vi a2, vi a3] 51)]) (ob := [(dP (instr_kindP7 #[vi a0] (a0)    1), true)]) rfl rfl (show rids (instr_CheckC 1).2 = [] from rfl) (by kernel_rfl) (obs_cons (dP_of (instr_kindC7 #[vi a0] (a0)   N c0  1 rfl (by decide) (by decide))) obs_nil) rfl (by decide) (by rfl) ⟨rr, ⟨rr, ⟨⟨Eq.trans (show (Value.agg #[vi ((1 : Nat) : Int), vi ((1 : Nat) : Int), vi ((1 : Nat) : Int)] : Value) = Value.agg #[vi (1 : Int), vi (1 : Int), vi (1 : Int)] from (agg_eq (cons_eq (congrArg (Value.int .i64) (by first | rfl | omega)) (cons_eq (congrArg (Value.int .i64) (by first | rfl | omega)) (cons_eq (congrArg (Value.int .i64) (by first | rfl | omega)) rfl))))) (by rfl), by rfl⟩, ⟨rr, trivial⟩⟩⟩⟩ ⟨⟨rfl, ⟨[], by rfl⟩, by rfl⟩, trivial⟩
 | r8 =>
  exact Mach.en_head (bK := instr_CheckC 1) (M := instr_CheckM a0 a1 a2 a3 N) (cd := 1000000) (cm := 0) (y := (.h1m0 (4) (0) (0) : instr_CheckX)) (fu := 4000) (orc := (orcw [] [] [] [] [(0, (instr_kindT8 (a0)    1))])) (live := [2]) (tv := [some (vp 2 0), some (vq), some (Value.agg #[vi (4 : Int), vq, vq]), some (vq)]) (bl := [some (.cells [vi a1, vi a2, vi a3] 51)]) (ob := [(dP (instr_kindP8 #[vi a0] (a0)    1), true)]) rfl rfl (show rids (instr_CheckC 1).2 = [] from rfl) (by kernel_rfl) (obs_cons (dP_of (instr_kindC8 #[vi a0] (a0)   N c0  1 rfl (by decide) (by decide))) obs_nil) rfl (by decide) (by rfl) ⟨rr, ⟨rr, ⟨⟨Eq.trans (show (Value.agg #[vi ((4 : Nat) : Int), vi ((0 : Nat) : Int), vi ((0 : Nat) : Int)] : Value) = Value.agg #[vi (4 : Int), vq, vq] from (agg_eq (cons_eq (congrArg (Value.int .i64) (by first | rfl | omega)) (cons_eq (congrArg (Value.int .i64) (by first | rfl | omega)) (cons_eq (congrArg (Value.int .i64) (by first | rfl | omega)) rfl))))) (by rfl), by rfl⟩, ⟨rr, trivial⟩⟩⟩⟩ ⟨⟨rfl, ⟨[], by rfl⟩, by rfl⟩, trivial⟩
 | r9 =>
  exact Mach.en_head (bK := instr_CheckC 1) (M := instr_CheckM a0 a1 a2 a3 N) (cd := 1000000) (cm := 0) (y := (.h1m0 (1) (4) (0) : instr_CheckX)) (fu := 4000) (orc := (orcw [] [] [] [] [(0, (instr_kindT9 (a0)    1))])) (live := [2]) (tv := [some (vp 2 0), some (vq), some (Value.agg #[vi (1 : Int), vi (4 : Int), vq]), some (vq)]) (bl := [some (.cells [vi a1, vi a2, vi a3] 51)]) (ob := [(dP (instr_kindP9 #[vi a0] (a0)    1), true)]) rfl rfl (show rids (instr_CheckC 1).2 = [] from rfl) (by kernel_rfl) (obs_cons (dP_of (instr_kindC9 #[vi a0] (a0)   N c0  1 rfl (by decide) (by decide))) obs_nil) rfl (by decide) (by rfl) ⟨rr, ⟨rr, ⟨⟨Eq.trans (show (Value.agg #[vi ((1 : Nat) : Int), vi ((4 : Nat) : Int), vi ((0 : Nat) : Int)] : Value) = Value.agg #[vi (1 : Int), vi (4 : Int), vq] from (agg_eq (cons_eq (congrArg (Value.int .i64) (by first | rfl | omega)) (cons_eq (congrArg (Value.int .i64) (by first | rfl | omega)) (cons_eq (congrArg (Value.int .i64) (by first | rfl | omega)) rfl))))) (by rfl), by rfl⟩, ⟨rr, trivial⟩⟩⟩⟩ ⟨⟨rfl, ⟨[], by rfl⟩, by rfl⟩, trivial⟩
 | r10 =>
  exact Mach.en_head (bK := instr_CheckC 1) (M := instr_CheckM a0 a1 a2 a3 N) (cd := 1000000) (cm := 0) (y := (.h1m0 (1) (0) (0) : instr_CheckX)) (fu := 4000) (orc := (orcw [] [] [] [] [(0, (instr_kindT10 (a0)    1))])) (live := [2]) (tv := [some (vp 2 0), some (vq), some (Value.agg #[vi (1 : Int), vq, vq]), some (vq)]) (bl := [some (.cells [vi a1, vi a2, vi a3] 51)]) (ob := [(dP (instr_kindP10 #[vi a0] (a0)    1), true)]) rfl rfl (show rids (instr_CheckC 1).2 = [] from rfl) (by kernel_rfl) (obs_cons (dP_of (instr_kindC10 #[vi a0] (a0)   N c0  1 rfl (by decide) (by decide))) obs_nil) rfl (by decide) (by rfl) ⟨rr, ⟨rr, ⟨⟨Eq.trans (show (Value.agg #[vi ((1 : Nat) : Int), vi ((0 : Nat) : Int), vi ((0 : Nat) : Int)] : Value) = Value.agg #[vi (1 : Int), vq, vq] from (agg_eq (cons_eq (congrArg (Value.int .i64) (by first | rfl | omega)) (cons_eq (congrArg (Value.int .i64) (by first | rfl | omega)) (cons_eq (congrArg (Value.int .i64) (by first | rfl | omega)) rfl))))) (by rfl), by rfl⟩, ⟨rr, trivial⟩⟩⟩⟩ ⟨⟨rfl, ⟨[], by rfl⟩, by rfl⟩, trivial⟩
 | r11 =>
  exact Mach.en_head (bK := instr_CheckC 1) (M := instr_CheckM a0 a1 a2 a3 N) (cd := 1000000) (cm := 0) (y := (.h1m0 (1) (3) (5) : instr_CheckX)) (fu := 4000) (orc := (orcw [] [] [] [] [(0, (instr_kindT11 (a0)    1))])) (live := [2]) (tv := [some (vp 2 0), some (vq), some (Value.agg #[vi (1 : Int), vi (3 : Int), vi (5 : Int)]), some (vq)]) (bl := [some (.cells [vi a1, vi a2, vi a3] 51)]) (ob := [(dP (instr_kindP11 #[vi a0] (a0)    1), true)]) rfl rfl (show rids (instr_CheckC 1).2 = [] from rfl) (by kernel_rfl) (obs_cons (dP_of (instr_kindC11 #[vi a0] (a0)   N c0  1 rfl (by decide) (by decide))) obs_nil) rfl (by decide) (by rfl) ⟨rr, ⟨rr, ⟨⟨Eq.trans (show (Value.agg #[vi ((1 : Nat) : Int), vi ((3 : Nat) : Int), vi ((5 : Nat) : Int)] : Value) = Value.agg #[vi (1 : Int), vi (3 : Int), vi (5 : Int)] from (agg_eq (cons_eq (congrArg (Value.int .i64) (by first | rfl | omega)) (cons_eq (congrArg (Value.int .i64) (by first | rfl | omega)) (cons_eq (congrArg (Value.int .i64) (by first | rfl | omega)) rfl))))) (by rfl), by rfl⟩, ⟨rr, trivial⟩⟩⟩⟩ ⟨⟨rfl, ⟨[], by rfl⟩, by rfl⟩, trivial⟩
 | r12 =>
  exact Mach.en_head (bK := instr_CheckC 1) (M := instr_CheckM a0 a1 a2 a3 N) (cd := 1000000) (cm := 0) (y := (.h1m0 (1) (0) (0) : instr_CheckX)) (fu := 4000) (orc := (orcw [] [] [] [] [(0, (instr_kindT12 (a0)    1))])) (live := [2]) (tv := [some (vp 2 0), some (vq), some (Value.agg #[vi (1 : Int), vq, vq]), some (vq)]) (bl := [some (.cells [vi a1, vi a2, vi a3] 51)]) (ob := [(dP (instr_kindP12 #[vi a0] (a0)    1), true)]) rfl rfl (show rids (instr_CheckC 1).2 = [] from rfl) (by kernel_rfl) (obs_cons (dP_of (instr_kindC12 #[vi a0] (a0)   N c0  1 rfl (by decide) (by decide))) obs_nil) rfl (by decide) (by rfl) ⟨rr, ⟨rr, ⟨⟨Eq.trans (show (Value.agg #[vi ((1 : Nat) : Int), vi ((0 : Nat) : Int), vi ((0 : Nat) : Int)] : Value) = Value.agg #[vi (1 : Int), vq, vq] from (agg_eq (cons_eq (congrArg (Value.int .i64) (by first | rfl | omega)) (cons_eq (congrArg (Value.int .i64) (by first | rfl | omega)) (cons_eq (congrArg (Value.int .i64) (by first | rfl | omega)) rfl))))) (by rfl), by rfl⟩, ⟨rr, trivial⟩⟩⟩⟩ ⟨⟨rfl, ⟨[], by rfl⟩, by rfl⟩, trivial⟩
 | r13 =>
  exact Mach.en_head (bK := instr_CheckC 1) (M := instr_CheckM a0 a1 a2 a3 N) (cd := 1000000) (cm := 0) (y := (.h1m0 (1) (1) (2) : instr_CheckX)) (fu := 4000) (orc := (orcw [] [] [] [] [(0, (instr_kindT13 (a0)    1))])) (live := [2]) (tv := [some (vp 2 0), some (vq), some (Value.agg #[vi (1 : Int), vi (1 : Int), vi (2 : Int)]), some (vq)]) (bl := [some (.cells [vi a1, vi a2, vi a3] 51)]) (ob := [(dP (instr_kindP13 #[vi a0] (a0)    1), true)]) rfl rfl (show rids (instr_CheckC 1).2 = [] from rfl) (by kernel_rfl) (obs_cons (dP_of (instr_kindC13 #[vi a0] (a0)   N c0  1 rfl (by decide) (by decide))) obs_nil) rfl (by decide) (by rfl) ⟨rr, ⟨rr, ⟨⟨Eq.trans (show (Value.agg #[vi ((1 : Nat) : Int), vi ((1 : Nat) : Int), vi ((2 : Nat) : Int)] : Value) = Value.agg #[vi (1 : Int), vi (1 : Int), vi (2 : Int)] from (agg_eq (cons_eq (congrArg (Value.int .i64) (by first | rfl | omega)) (cons_eq (congrArg (Value.int .i64) (by first | rfl | omega)) (cons_eq (congrArg (Value.int .i64) (by first | rfl | omega)) rfl))))) (by rfl), by rfl⟩, ⟨rr, trivial⟩⟩⟩⟩ ⟨⟨rfl, ⟨[], by rfl⟩, by rfl⟩, trivial⟩
 | r14 =>
  exact Mach.en_head (bK := instr_CheckC 1) (M := instr_CheckM a0 a1 a2 a3 N) (cd := 1000000) (cm := 0) (y := (.h1m0 (1) (2) (1) : instr_CheckX)) (fu := 4000) (orc := (orcw [] [] [] [] [(0, (instr_kindT14 (a0)    1))])) (live := [2]) (tv := [some (vp 2 0), some (vq), some (Value.agg #[vi (1 : Int), vi (2 : Int), vi (1 : Int)]), some (vq)]) (bl := [some (.cells [vi a1, vi a2, vi a3] 51)]) (ob := [(dP (instr_kindP14 #[vi a0] (a0)    1), true)]) rfl rfl (show rids (instr_CheckC 1).2 = [] from rfl) (by kernel_rfl) (obs_cons (dP_of (instr_kindC14 #[vi a0] (a0)   N c0  1 rfl (by decide) (by decide))) obs_nil) rfl (by decide) (by rfl) ⟨rr, ⟨rr, ⟨⟨Eq.trans (show (Value.agg #[vi ((1 : Nat) : Int), vi ((2 : Nat) : Int), vi ((1 : Nat) : Int)] : Value) = Value.agg #[vi (1 : Int), vi (2 : Int), vi (1 : Int)] from (agg_eq (cons_eq (congrArg (Value.int .i64) (by first | rfl | omega)) (cons_eq (congrArg (Value.int .i64) (by first | rfl | omega)) (cons_eq (congrArg (Value.int .i64) (by first | rfl | omega)) rfl))))) (by rfl), by rfl⟩, ⟨rr, trivial⟩⟩⟩⟩ ⟨⟨rfl, ⟨[], by rfl⟩, by rfl⟩, trivial⟩
 | r15 =>
  exact Mach.en_head (bK := instr_CheckC 1) (M := instr_CheckM a0 a1 a2 a3 N) (cd := 1000000) (cm := 0) (y := (.h1m0 (0) (0) (0) : instr_CheckX)) (fu := 4000) (orc := (orcw [] [] [] [] [(0, (instr_kindT15 (a0)    1))])) (live := [2]) (tv := [some (vp 2 0), some (vq), some (Value.agg #[vq, vq, vq]), some (vq)]) (bl := [some (.cells [vi a1, vi a2, vi a3] 51)]) (ob := [(dP (instr_kindP15 #[vi a0] (a0)    1), true)]) rfl rfl (show rids (instr_CheckC 1).2 = [] from rfl) (by kernel_rfl) (obs_cons (dP_of (instr_kindC15 #[vi a0] (a0)   N c0  1 rfl (by decide) (by decide))) obs_nil) rfl (by decide) (by rfl) ⟨rr, ⟨rr, ⟨⟨Eq.trans (show (Value.agg #[vi ((0 : Nat) : Int), vi ((0 : Nat) : Int), vi ((0 : Nat) : Int)] : Value) = Value.agg #[vq, vq, vq] from (agg_eq (cons_eq (congrArg (Value.int .i64) (by first | rfl | omega)) (cons_eq (congrArg (Value.int .i64) (by first | rfl | omega)) (cons_eq (congrArg (Value.int .i64) (by first | rfl | omega)) rfl))))) (by rfl), by rfl⟩, ⟨rr, trivial⟩⟩⟩⟩ ⟨⟨rfl, ⟨[], by rfl⟩, by rfl⟩, trivial⟩
 | r16 =>
  exact Mach.en_head (bK := instr_CheckC 1) (M := instr_CheckM a0 a1 a2 a3 N) (cd := 1000000) (cm := 0) (y := (.h1m0 (0) (0) (0) : instr_CheckX)) (fu := 4000) (orc := (orcw [] [] [] [] [(0, (instr_kindT16 (a0)    1))])) (live := [2]) (tv := [some (vp 2 0), some (vq), some (Value.agg #[vq, vq, vq]), some (vq)]) (bl := [some (.cells [vi a1, vi a2, vi a3] 51)]) (ob := [(dP (instr_kindP16 #[vi a0] (a0)    1), true)]) rfl rfl (show rids (instr_CheckC 1).2 = [] from rfl) (by kernel_rfl) (obs_cons (dP_of (instr_kindC16 #[vi a0] (a0)   N c0  1 rfl (by decide) (by decide))) obs_nil) rfl (by decide) (by rfl) ⟨rr, ⟨rr, ⟨⟨Eq.trans (show (Value.agg #[vi ((0 : Nat) : Int), vi ((0 : Nat) : Int), vi ((0 : Nat) : Int)] : Value) = Value.agg #[vq, vq, vq] from (agg_eq (cons_eq (congrArg (Value.int .i64) (by first | rfl | omega)) (cons_eq (congrArg (Value.int .i64) (by first | rfl | omega)) (cons_eq (congrArg (Value.int .i64) (by first | rfl | omega)) rfl))))) (by rfl), by rfl⟩, ⟨rr, trivial⟩⟩⟩⟩ ⟨⟨rfl, ⟨[], by rfl⟩, by rfl⟩, trivial⟩
 | r17 =>
  exact Mach.en_head (bK := instr_CheckC 1) (M := instr_CheckM a0 a1 a2 a3 N) (cd := 1000000) (cm := 0) (y := (.h1m0 (0) (0) (0) : instr_CheckX)) (fu := 4000) (orc := (orcw [] [] [] [] [(0, (instr_kindT17 (a0)    1))])) (live := [2]) (tv := [some (vp 2 0), some (vq), some (Value.agg #[vq, vq, vq]), some (vq)]) (bl := [some (.cells [vi a1, vi a2, vi a3] 51)]) (ob := [(dP (instr_kindP17 #[vi a0] (a0)    1), true)]) rfl rfl (show rids (instr_CheckC 1).2 = [] from rfl) (by kernel_rfl) (obs_cons (dP_of (instr_kindC17 #[vi a0] (a0)   N c0  1 rfl (by decide) (by decide))) obs_nil) rfl (by decide) (by rfl) ⟨rr, ⟨rr, ⟨⟨Eq.trans (show (Value.agg #[vi ((0 : Nat) : Int), vi ((0 : Nat) : Int), vi ((0 : Nat) : Int)] : Value) = Value.agg #[vq, vq, vq] from (agg_eq (cons_eq (congrArg (Value.int .i64) (by first | rfl | omega)) (cons_eq (congrArg (Value.int .i64) (by first | rfl | omega)) (cons_eq (congrArg (Value.int .i64) (by first | rfl | omega)) rfl))))) (by rfl), by rfl⟩, ⟨rr, trivial⟩⟩⟩⟩ ⟨⟨rfl, ⟨[], by rfl⟩, by rfl⟩, trivial⟩
 | r18 =>
  exact Mach.en_head (bK := instr_CheckC 1) (M := instr_CheckM a0 a1 a2 a3 N) (cd := 1000000) (cm := 0) (y := (.h1m0 (0) (0) (0) : instr_CheckX)) (fu := 4000) (orc := (orcw [] [] [] [] [(0, (instr_kindT18 (a0)    1))])) (live := [2]) (tv := [some (vp 2 0), some (vq), some (Value.agg #[vq, vq, vq]), some (vq)]) (bl := [some (.cells [vi a1, vi a2, vi a3] 51)]) (ob := [(dP (instr_kindP18 #[vi a0] (a0)    1), true)]) rfl rfl (show rids (instr_CheckC 1).2 = [] from rfl) (by kernel_rfl) (obs_cons (dP_of (instr_kindC18 #[vi a0] (a0)   N c0  1 rfl (by decide) (by decide))) obs_nil) rfl (by decide) (by rfl) ⟨rr, ⟨rr, ⟨⟨Eq.trans (show (Value.agg #[vi ((0 : Nat) : Int), vi ((0 : Nat) : Int), vi ((0 : Nat) : Int)] : Value) = Value.agg #[vq, vq, vq] from (agg_eq (cons_eq (congrArg (Value.int .i64) (by first | rfl | omega)) (cons_eq (congrArg (Value.int .i64) (by first | rfl | omega)) (cons_eq (congrArg (Value.int .i64) (by first | rfl | omega)) rfl))))) (by rfl), by rfl⟩, ⟨rr, trivial⟩⟩⟩⟩ ⟨⟨rfl, ⟨[], by rfl⟩, by rfl⟩, trivial⟩
 | r19 =>
  exact Mach.en_head (bK := instr_CheckC 1) (M := instr_CheckM a0 a1 a2 a3 N) (cd := 1000000) (cm := 0) (y := (.h1m0 (1) (0) (0) : instr_CheckX)) (fu := 4000) (orc := (orcw [] [] [] [] [(0, (instr_kindT19 (a0)    1))])) (live := [2]) (tv := [some (vp 2 0), some (vq), some (Value.agg #[vi (1 : Int), vq, vq]), some (vq)]) (bl := [some (.cells [vi a1, vi a2, vi a3] 51)]) (ob := [(dP (instr_kindP19 #[vi a0] (a0)    1), true)]) rfl rfl (show rids (instr_CheckC 1).2 = [] from rfl) (by kernel_rfl) (obs_cons (dP_of (instr_kindC19 #[vi a0] (a0)   N c0  1 rfl (by decide) (by decide))) obs_nil) rfl (by decide) (by rfl) ⟨rr, ⟨rr, ⟨⟨Eq.trans (show (Value.agg #[vi ((1 : Nat) : Int), vi ((0 : Nat) : Int), vi ((0 : Nat) : Int)] : Value) = Value.agg #[vi (1 : Int), vq, vq] from (agg_eq (cons_eq (congrArg (Value.int .i64) (by first | rfl | omega)) (cons_eq (congrArg (Value.int .i64) (by first | rfl | omega)) (cons_eq (congrArg (Value.int .i64) (by first | rfl | omega)) rfl))))) (by rfl), by rfl⟩, ⟨rr, trivial⟩⟩⟩⟩ ⟨⟨rfl, ⟨[], by rfl⟩, by rfl⟩, trivial⟩
 | r20 =>
  exact Mach.en_head (bK := instr_CheckC 1) (M := instr_CheckM a0 a1 a2 a3 N) (cd := 1000000) (cm := 0) (y := (.h1m0 (0) (0) (0) : instr_CheckX)) (fu := 4000) (orc := (orcw [] [] [] [] [(0, (instr_kindT20 (a0)    1))])) (live := [2]) (tv := [some (vp 2 0), some (vq), some (Value.agg #[vq, vq, vq]), some (vq)]) (bl := [some (.cells [vi a1, vi a2, vi a3] 51)]) (ob := [(dP (instr_kindP20 #[vi a0] (a0)    1), true)]) rfl rfl (show rids (instr_CheckC 1).2 = [] from rfl) (by kernel_rfl) (obs_cons (dP_of (instr_kindC20 #[vi a0] (a0)   N c0  1 rfl (by decide) (by decide))) obs_nil) rfl (by decide) (by rfl) ⟨rr, ⟨rr, ⟨⟨Eq.trans (show (Value.agg #[vi ((0 : Nat) : Int), vi ((0 : Nat) : Int), vi ((0 : Nat) : Int)] : Value) = Value.agg #[vq, vq, vq] from (agg_eq (cons_eq (congrArg (Value.int .i64) (by first | rfl | omega)) (cons_eq (congrArg (Value.int .i64) (by first | rfl | omega)) (cons_eq (congrArg (Value.int .i64) (by first | rfl | omega)) rfl))))) (by rfl), by rfl⟩, ⟨rr, trivial⟩⟩⟩⟩ ⟨⟨rfl, ⟨[], by rfl⟩, by rfl⟩, trivial⟩

theorem instr_Check_spec (a0 a1 a2 a3 : Int) (N : Nat) (r : instr_CheckR) (h : instr_Check a0 a1 a2 a3 N = some r) : LSpec Try.prog 20 #[Value.agg #[vi a0, vi a1, vi a2, vi a3]] [] (instr_CheckV a0 a1 a2 a3 r) (instr_CheckPo a0 a1 a2 a3 r) :=
 Mach.spec fit_Pk (instr_CheckM a0 a1 a2 a3 N) Try.func20 (by kernel_rfl) (by kernel_rfl) (fun x => by cases x <;> exact le_far _ rfl) (fun r => by cases r <;> exact le_far _ rfl) (fun x => by
  cases x with
  | h1m0 _ _ _ => exact fun _ => (show ¬ (1 ∈ rids (instr_CheckC 1).2) from by decide +kernel)
  | h1m1 _ _ _ => exact fun _ => (show ¬ (1 ∈ rids (instr_CheckC 1).2) from by decide +kernel)
  | h1m2 _ _ _ => exact fun _ => (show ¬ (1 ∈ rids (instr_CheckC 1).2) from by decide +kernel)
  | h1m3 _ _ _ => exact fun _ => (show ¬ (1 ∈ rids (instr_CheckC 1).2) from by decide +kernel)
  ) (fun x => (show (instr_CheckM a0 a1 a2 a3 N).Ok Try.prog ext_Pk x (instr_CheckStep a0 a1 a2 a3 N x) from by
  cases x with
  | h1m0 v1 v2 v3 => exact instr_Check_ok1_0 a0 a1 a2 a3 v1 v2 v3 N
  | h1m1 v1 v2 v3 => exact instr_Check_ok1_1 a0 a1 a2 a3 v1 v2 v3 N
  | h1m2 v1 v2 v3 => exact instr_Check_ok1_2 a0 a1 a2 a3 v1 v2 v3 N
  | h1m3 v1 v2 v3 => exact instr_Check_ok1_3 a0 a1 a2 a3 v1 v2 v3 N
  )) (instr_Check_en a0 a1 a2 a3 N) (n := N) h

noncomputable def instr_CheckT0 (a0 a1 a2 a3 w0 : Int) (n : Nat) : Told := .call [] (vi w0) [] 0
def instr_CheckP0 (A : Array Value) (a0 a1 a2 a3 w0 : Int) (n : Nat) : Prop := CallSpec Try.prog 20 A [] (vi w0) [] n 0

theorem instr_CheckC0 (A : Array Value) (a0 a1 a2 a3 w0 : Int) (N : Nat) (h : instr_Check a0 a1 a2 a3 N = some (.r0 w0)) (n : Nat) (hA : A = #[Value.agg #[vi a0, vi a1, vi a2, vi a3]]) (hnd : ([] : List Nat).Nodup) (hlt : ∀ k ∈ ([] : List Nat), k < n) : instr_CheckP0 A a0 a1 a2 a3 w0  n :=
 cs_args hA (LSpec.callL (show LSpec Try.prog 20 #[Value.agg #[vi a0, vi a1, vi a2, vi a3]] [] (vi w0) [] from instr_Check_spec a0 a1 a2 a3 N _ h) [] n [] rfl hnd hlt (show 0 ≤ 0 from by decide) (show ∀ j ∈ ([] : List Nat), j < 0 from by decide) (by rfl) trivial (by rfl) trivial trivial rfl rfl rfl rfl rfl)

noncomputable def instr_kind_2V (a0 : Int) : instr_kind_2R → Value
 | .r0 w0 w1 w2 w3 => Value.agg #[Value.string (strOf w0), vi w1, vi w2, vi w3]
noncomputable def instr_kind_2Po (a0 : Int) : instr_kind_2R → List (Option AObj)
 | .r0 w0 w1 w2 w3 => []

theorem instr_kind_2_fx (a0 : Int) (N : Nat) : Fx Try.prog ext_Pk Try.f22 [] #[vi a0] (instr_kind_2V a0) (instr_kind_2Po a0) (instr_kind_2 a0 N) := by
 unfold instr_kind_2
 refine fx_ite (fun g0 => ?_) (fun g0 => ?_)
 ·
  exact fx_fin (r := (.r0 (([] : List Int)) ((0 : Int)) ((0 : Int)) ((0 : Int)) : instr_kind_2R)) (fu := 4000) (orc := (orcw [(0, true)] [] [] [] [])) (live := []) (u := Value.agg #[Value.string ⟨#[]⟩, vq, vq, vq]) (bl := []) (ob := [((decide (a0 < (0 : Int))), true)]) (by kernel_rfl) (oY obs_nil) rfl (by decide) (by rfl) ⟨Eq.trans (show (Value.agg #[Value.string (strOf ([] : List Int)), vq, vq, vq] : Value) = Value.agg #[Value.string ⟨#[]⟩, vq, vq, vq] from (agg_eq (cons_eq rfl (cons_eq rfl (cons_eq rfl (cons_eq rfl rfl)))))) (by rfl), by rfl⟩ trivial
 ·
  refine fx_ite (fun g1 => ?_) (fun g1 => ?_)
  ·
   exact fx_fin (r := (.r0 (([] : List Int)) ((0 : Int)) ((0 : Int)) ((0 : Int)) : instr_kind_2R)) (fu := 4000) (orc := (orcw [(0, false), (1, true)] [] [] [] [])) (live := []) (u := Value.agg #[Value.string ⟨#[]⟩, vq, vq, vq]) (bl := []) (ob := [((decide (a0 ≥ (21 : Int))), true), ((decide (a0 < (0 : Int))), false)]) (by kernel_rfl) (oY <| oN obs_nil) rfl (by decide) (by rfl) ⟨Eq.trans (show (Value.agg #[Value.string (strOf ([] : List Int)), vq, vq, vq] : Value) = Value.agg #[Value.string ⟨#[]⟩, vq, vq, vq] from (agg_eq (cons_eq rfl (cons_eq rfl (cons_eq rfl (cons_eq rfl rfl)))))) (by rfl), by rfl⟩ trivial
  ·
   refine fx_ite (fun g2 => ?_) (fun g2 => ?_)
   ·
    exact fx_fin (r := (.r0 (([] : List Int)) ((0 : Int)) ((0 : Int)) ((0 : Int)) : instr_kind_2R)) (fu := 4000) (orc := (orcw [(0, false), (1, false)] [] [(0, 0)] [] [])) (live := []) (u := Value.agg #[Value.string ⟨#[]⟩, vq, vq, vq]) (bl := []) (ob := [(Nat.blt 0 21, true), (a0 == Int.ofNat 0, true), ((decide (a0 ≥ (21 : Int))), false), ((decide (a0 < (0 : Int))), false)]) (by kernel_rfl) (oB <| obs_cons (beq_iff_eq.2 (show _ = ((0 : Nat) : Int) from by omega)) <| oN <| oN obs_nil) rfl (by decide) (by rfl) ⟨Eq.trans (show (Value.agg #[Value.string (strOf ([] : List Int)), vq, vq, vq] : Value) = Value.agg #[Value.string ⟨#[]⟩, vq, vq, vq] from (agg_eq (cons_eq rfl (cons_eq rfl (cons_eq rfl (cons_eq rfl rfl)))))) (by rfl), by rfl⟩ trivial
   ·
    refine fx_ite (fun g3 => ?_) (fun g3 => ?_)
    ·
     exact fx_fin (r := (.r0 (([(99 : Int), (111 : Int), (110 : Int), (115 : Int), (116 : Int)] : List Int)) ((1 : Int)) ((6 : Int)) ((0 : Int)) : instr_kind_2R)) (fu := 4000) (orc := (orcw [(0, false), (1, false)] [] [(0, 1)] [] [])) (live := []) (u := Value.agg #[Value.string ⟨#[99, 111, 110, 115, 116]⟩, vi (1 : Int), vi (6 : Int), vq]) (bl := []) (ob := [(Nat.blt 1 21, true), (a0 == Int.ofNat 1, true), ((decide (a0 ≥ (21 : Int))), false), ((decide (a0 < (0 : Int))), false)]) (by kernel_rfl) (oB <| obs_cons (beq_iff_eq.2 (show _ = ((1 : Nat) : Int) from by omega)) <| oN <| oN obs_nil) rfl (by decide) (by rfl) ⟨Eq.trans (show (Value.agg #[Value.string (strOf ([(99 : Int), (111 : Int), (110 : Int), (115 : Int), (116 : Int)] : List Int)), vi (1 : Int), vi (6 : Int), vq] : Value) = Value.agg #[Value.string ⟨#[99, 111, 110, 115, 116]⟩, vi (1 : Int), vi (6 : Int), vq] from (agg_eq (cons_eq rfl (cons_eq rfl (cons_eq rfl (cons_eq rfl rfl)))))) (by rfl), by rfl⟩ trivial
    ·
     refine fx_ite (fun g4 => ?_) (fun g4 => ?_)
     ·
      exact fx_fin (r := (.r0 (([(110 : Int), (105 : Int), (108 : Int)] : List Int)) ((1 : Int)) ((0 : Int)) ((0 : Int)) : instr_kind_2R)) (fu := 4000) (orc := (orcw [(0, false), (1, false)] [] [(0, 2)] [] [])) (live := []) (u := Value.agg #[Value.string ⟨#[110, 105, 108]⟩, vi (1 : Int), vq, vq]) (bl := []) (ob := [(Nat.blt 2 21, true), (a0 == Int.ofNat 2, true), ((decide (a0 ≥ (21 : Int))), false), ((decide (a0 < (0 : Int))), false)]) (by kernel_rfl) (oB <| obs_cons (beq_iff_eq.2 (show _ = ((2 : Nat) : Int) from by omega)) <| oN <| oN obs_nil) rfl (by decide) (by rfl) ⟨Eq.trans (show (Value.agg #[Value.string (strOf ([(110 : Int), (105 : Int), (108 : Int)] : List Int)), vi (1 : Int), vq, vq] : Value) = Value.agg #[Value.string ⟨#[110, 105, 108]⟩, vi (1 : Int), vq, vq] from (agg_eq (cons_eq rfl (cons_eq rfl (cons_eq rfl (cons_eq rfl rfl)))))) (by rfl), by rfl⟩ trivial
     ·
      refine fx_ite (fun g5 => ?_) (fun g5 => ?_)
      ·
       exact fx_fin (r := (.r0 (([(109 : Int), (111 : Int), (118 : Int), (101 : Int)] : List Int)) ((1 : Int)) ((1 : Int)) ((0 : Int)) : instr_kind_2R)) (fu := 4000) (orc := (orcw [(0, false), (1, false)] [] [(0, 3)] [] [])) (live := []) (u := Value.agg #[Value.string ⟨#[109, 111, 118, 101]⟩, vi (1 : Int), vi (1 : Int), vq]) (bl := []) (ob := [(Nat.blt 3 21, true), (a0 == Int.ofNat 3, true), ((decide (a0 ≥ (21 : Int))), false), ((decide (a0 < (0 : Int))), false)]) (by kernel_rfl) (oB <| obs_cons (beq_iff_eq.2 (show _ = ((3 : Nat) : Int) from by omega)) <| oN <| oN obs_nil) rfl (by decide) (by rfl) ⟨Eq.trans (show (Value.agg #[Value.string (strOf ([(109 : Int), (111 : Int), (118 : Int), (101 : Int)] : List Int)), vi (1 : Int), vi (1 : Int), vq] : Value) = Value.agg #[Value.string ⟨#[109, 111, 118, 101]⟩, vi (1 : Int), vi (1 : Int), vq] from (agg_eq (cons_eq rfl (cons_eq rfl (cons_eq rfl (cons_eq rfl rfl)))))) (by rfl), by rfl⟩ trivial
      ·
       refine fx_ite (fun g6 => ?_) (fun g6 => ?_)
       ·
        exact fx_fin (r := (.r0 (([(97 : Int), (100 : Int), (100 : Int)] : List Int)) ((1 : Int)) ((1 : Int)) ((1 : Int)) : instr_kind_2R)) (fu := 4000) (orc := (orcw [(0, false), (1, false)] [] [(0, 4)] [] [])) (live := []) (u := Value.agg #[Value.string ⟨#[97, 100, 100]⟩, vi (1 : Int), vi (1 : Int), vi (1 : Int)]) (bl := []) (ob := [(Nat.blt 4 21, true), (a0 == Int.ofNat 4, true), ((decide (a0 ≥ (21 : Int))), false), ((decide (a0 < (0 : Int))), false)]) (by kernel_rfl) (oB <| obs_cons (beq_iff_eq.2 (show _ = ((4 : Nat) : Int) from by omega)) <| oN <| oN obs_nil) rfl (by decide) (by rfl) ⟨Eq.trans (show (Value.agg #[Value.string (strOf ([(97 : Int), (100 : Int), (100 : Int)] : List Int)), vi (1 : Int), vi (1 : Int), vi (1 : Int)] : Value) = Value.agg #[Value.string ⟨#[97, 100, 100]⟩, vi (1 : Int), vi (1 : Int), vi (1 : Int)] from (agg_eq (cons_eq rfl (cons_eq rfl (cons_eq rfl (cons_eq rfl rfl)))))) (by rfl), by rfl⟩ trivial
       ·
        refine fx_ite (fun g7 => ?_) (fun g7 => ?_)
        ·
         exact fx_fin (r := (.r0 (([(115 : Int), (117 : Int), (98 : Int)] : List Int)) ((1 : Int)) ((1 : Int)) ((1 : Int)) : instr_kind_2R)) (fu := 4000) (orc := (orcw [(0, false), (1, false)] [] [(0, 5)] [] [])) (live := []) (u := Value.agg #[Value.string ⟨#[115, 117, 98]⟩, vi (1 : Int), vi (1 : Int), vi (1 : Int)]) (bl := []) (ob := [(Nat.blt 5 21, true), (a0 == Int.ofNat 5, true), ((decide (a0 ≥ (21 : Int))), false), ((decide (a0 < (0 : Int))), false)]) (by kernel_rfl) (oB <| obs_cons (beq_iff_eq.2 (show _ = ((5 : Nat) : Int) from by omega)) <| oN <| oN obs_nil) rfl (by decide) (by rfl) ⟨Eq.trans (show (Value.agg #[Value.string (strOf ([(115 : Int), (117 : Int), (98 : Int)] : List Int)), vi (1 : Int), vi (1 : Int), vi (1 : Int)] : Value) = Value.agg #[Value.string ⟨#[115, 117, 98]⟩, vi (1 : Int), vi (1 : Int), vi (1 : Int)] from (agg_eq (cons_eq rfl (cons_eq rfl (cons_eq rfl (cons_eq rfl rfl)))))) (by rfl), by rfl⟩ trivial
        ·
         refine fx_ite (fun g8 => ?_) (fun g8 => ?_)
         ·
          exact fx_fin (r := (.r0 (([(108 : Int), (101 : Int), (115 : Int), (115 : Int)] : List Int)) ((1 : Int)) ((1 : Int)) ((1 : Int)) : instr_kind_2R)) (fu := 4000) (orc := (orcw [(0, false), (1, false)] [] [(0, 6)] [] [])) (live := []) (u := Value.agg #[Value.string ⟨#[108, 101, 115, 115]⟩, vi (1 : Int), vi (1 : Int), vi (1 : Int)]) (bl := []) (ob := [(Nat.blt 6 21, true), (a0 == Int.ofNat 6, true), ((decide (a0 ≥ (21 : Int))), false), ((decide (a0 < (0 : Int))), false)]) (by kernel_rfl) (oB <| obs_cons (beq_iff_eq.2 (show _ = ((6 : Nat) : Int) from by omega)) <| oN <| oN obs_nil) rfl (by decide) (by rfl) ⟨Eq.trans (show (Value.agg #[Value.string (strOf ([(108 : Int), (101 : Int), (115 : Int), (115 : Int)] : List Int)), vi (1 : Int), vi (1 : Int), vi (1 : Int)] : Value) = Value.agg #[Value.string ⟨#[108, 101, 115, 115]⟩, vi (1 : Int), vi (1 : Int), vi (1 : Int)] from (agg_eq (cons_eq rfl (cons_eq rfl (cons_eq rfl (cons_eq rfl rfl)))))) (by rfl), by rfl⟩ trivial
         ·
          refine fx_ite (fun g9 => ?_) (fun g9 => ?_)
          ·
           exact fx_fin (r := (.r0 (([(101 : Int), (113 : Int)] : List Int)) ((1 : Int)) ((1 : Int)) ((1 : Int)) : instr_kind_2R)) (fu := 4000) (orc := (orcw [(0, false), (1, false)] [] [(0, 7)] [] [])) (live := []) (u := Value.agg #[Value.string ⟨#[101, 113]⟩, vi (1 : Int), vi (1 : Int), vi (1 : Int)]) (bl := []) (ob := [(Nat.blt 7 21, true), (a0 == Int.ofNat 7, true), ((decide (a0 ≥ (21 : Int))), false), ((decide (a0 < (0 : Int))), false)]) (by kernel_rfl) (oB <| obs_cons (beq_iff_eq.2 (show _ = ((7 : Nat) : Int) from by omega)) <| oN <| oN obs_nil) rfl (by decide) (by rfl) ⟨Eq.trans (show (Value.agg #[Value.string (strOf ([(101 : Int), (113 : Int)] : List Int)), vi (1 : Int), vi (1 : Int), vi (1 : Int)] : Value) = Value.agg #[Value.string ⟨#[101, 113]⟩, vi (1 : Int), vi (1 : Int), vi (1 : Int)] from (agg_eq (cons_eq rfl (cons_eq rfl (cons_eq rfl (cons_eq rfl rfl)))))) (by rfl), by rfl⟩ trivial
          ·
           refine fx_ite (fun g10 => ?_) (fun g10 => ?_)
           ·
            exact fx_fin (r := (.r0 (([(106 : Int), (117 : Int), (109 : Int), (112 : Int)] : List Int)) ((4 : Int)) ((0 : Int)) ((0 : Int)) : instr_kind_2R)) (fu := 4000) (orc := (orcw [(0, false), (1, false)] [] [(0, 8)] [] [])) (live := []) (u := Value.agg #[Value.string ⟨#[106, 117, 109, 112]⟩, vi (4 : Int), vq, vq]) (bl := []) (ob := [(Nat.blt 8 21, true), (a0 == Int.ofNat 8, true), ((decide (a0 ≥ (21 : Int))), false), ((decide (a0 < (0 : Int))), false)]) (by kernel_rfl) (oB <| obs_cons (beq_iff_eq.2 (show _ = ((8 : Nat) : Int) from by omega)) <| oN <| oN obs_nil) rfl (by decide) (by rfl) ⟨Eq.trans (show (Value.agg #[Value.string (strOf ([(106 : Int), (117 : Int), (109 : Int), (112 : Int)] : List Int)), vi (4 : Int), vq, vq] : Value) = Value.agg #[Value.string ⟨#[106, 117, 109, 112]⟩, vi (4 : Int), vq, vq] from (agg_eq (cons_eq rfl (cons_eq rfl (cons_eq rfl (cons_eq rfl rfl)))))) (by rfl), by rfl⟩ trivial
           ·
            refine fx_ite (fun g11 => ?_) (fun g11 => ?_)
            ·
             exact fx_fin (r := (.r0 (([(106 : Int), (117 : Int), (109 : Int), (112 : Int), (122 : Int)] : List Int)) ((1 : Int)) ((4 : Int)) ((0 : Int)) : instr_kind_2R)) (fu := 4000) (orc := (orcw [(0, false), (1, false)] [] [(0, 9)] [] [])) (live := []) (u := Value.agg #[Value.string ⟨#[106, 117, 109, 112, 122]⟩, vi (1 : Int), vi (4 : Int), vq]) (bl := []) (ob := [(Nat.blt 9 21, true), (a0 == Int.ofNat 9, true), ((decide (a0 ≥ (21 : Int))), false), ((decide (a0 < (0 : Int))), false)]) (by kernel_rfl) (oB <| obs_cons (beq_iff_eq.2 (show _ = ((9 : Nat) : Int) from by omega)) <| oN <| oN obs_nil) rfl (by decide) (by rfl) ⟨Eq.trans (show (Value.agg #[Value.string (strOf ([(106 : Int), (117 : Int), (109 : Int), (112 : Int), (122 : Int)] : List Int)), vi (1 : Int), vi (4 : Int), vq] : Value) = Value.agg #[Value.string ⟨#[106, 117, 109, 112, 122]⟩, vi (1 : Int), vi (4 : Int), vq] from (agg_eq (cons_eq rfl (cons_eq rfl (cons_eq rfl (cons_eq rfl rfl)))))) (by rfl), by rfl⟩ trivial
            ·
             refine fx_ite (fun g12 => ?_) (fun g12 => ?_)
             ·
              exact fx_fin (r := (.r0 (([(114 : Int), (111 : Int), (111 : Int), (116 : Int)] : List Int)) ((1 : Int)) ((0 : Int)) ((0 : Int)) : instr_kind_2R)) (fu := 4000) (orc := (orcw [(0, false), (1, false)] [] [(0, 10)] [] [])) (live := []) (u := Value.agg #[Value.string ⟨#[114, 111, 111, 116]⟩, vi (1 : Int), vq, vq]) (bl := []) (ob := [(Nat.blt 10 21, true), (a0 == Int.ofNat 10, true), ((decide (a0 ≥ (21 : Int))), false), ((decide (a0 < (0 : Int))), false)]) (by kernel_rfl) (oB <| obs_cons (beq_iff_eq.2 (show _ = ((10 : Nat) : Int) from by omega)) <| oN <| oN obs_nil) rfl (by decide) (by rfl) ⟨Eq.trans (show (Value.agg #[Value.string (strOf ([(114 : Int), (111 : Int), (111 : Int), (116 : Int)] : List Int)), vi (1 : Int), vq, vq] : Value) = Value.agg #[Value.string ⟨#[114, 111, 111, 116]⟩, vi (1 : Int), vq, vq] from (agg_eq (cons_eq rfl (cons_eq rfl (cons_eq rfl (cons_eq rfl rfl)))))) (by rfl), by rfl⟩ trivial
             ·
              refine fx_ite (fun g13 => ?_) (fun g13 => ?_)
              ·
               exact fx_fin (r := (.r0 (([(110 : Int), (101 : Int), (119 : Int)] : List Int)) ((1 : Int)) ((3 : Int)) ((5 : Int)) : instr_kind_2R)) (fu := 4000) (orc := (orcw [(0, false), (1, false)] [] [(0, 11)] [] [])) (live := []) (u := Value.agg #[Value.string ⟨#[110, 101, 119]⟩, vi (1 : Int), vi (3 : Int), vi (5 : Int)]) (bl := []) (ob := [(Nat.blt 11 21, true), (a0 == Int.ofNat 11, true), ((decide (a0 ≥ (21 : Int))), false), ((decide (a0 < (0 : Int))), false)]) (by kernel_rfl) (oB <| obs_cons (beq_iff_eq.2 (show _ = ((11 : Nat) : Int) from by omega)) <| oN <| oN obs_nil) rfl (by decide) (by rfl) ⟨Eq.trans (show (Value.agg #[Value.string (strOf ([(110 : Int), (101 : Int), (119 : Int)] : List Int)), vi (1 : Int), vi (3 : Int), vi (5 : Int)] : Value) = Value.agg #[Value.string ⟨#[110, 101, 119]⟩, vi (1 : Int), vi (3 : Int), vi (5 : Int)] from (agg_eq (cons_eq rfl (cons_eq rfl (cons_eq rfl (cons_eq rfl rfl)))))) (by rfl), by rfl⟩ trivial
              ·
               refine fx_ite (fun g14 => ?_) (fun g14 => ?_)
               ·
                exact fx_fin (r := (.r0 (([(102 : Int), (114 : Int), (101 : Int), (101 : Int)] : List Int)) ((1 : Int)) ((0 : Int)) ((0 : Int)) : instr_kind_2R)) (fu := 4000) (orc := (orcw [(0, false), (1, false)] [] [(0, 12)] [] [])) (live := []) (u := Value.agg #[Value.string ⟨#[102, 114, 101, 101]⟩, vi (1 : Int), vq, vq]) (bl := []) (ob := [(Nat.blt 12 21, true), (a0 == Int.ofNat 12, true), ((decide (a0 ≥ (21 : Int))), false), ((decide (a0 < (0 : Int))), false)]) (by kernel_rfl) (oB <| obs_cons (beq_iff_eq.2 (show _ = ((12 : Nat) : Int) from by omega)) <| oN <| oN obs_nil) rfl (by decide) (by rfl) ⟨Eq.trans (show (Value.agg #[Value.string (strOf ([(102 : Int), (114 : Int), (101 : Int), (101 : Int)] : List Int)), vi (1 : Int), vq, vq] : Value) = Value.agg #[Value.string ⟨#[102, 114, 101, 101]⟩, vi (1 : Int), vq, vq] from (agg_eq (cons_eq rfl (cons_eq rfl (cons_eq rfl (cons_eq rfl rfl)))))) (by rfl), by rfl⟩ trivial
               ·
                refine fx_ite (fun g15 => ?_) (fun g15 => ?_)
                ·
                 exact fx_fin (r := (.r0 (([(103 : Int), (101 : Int), (116 : Int)] : List Int)) ((1 : Int)) ((1 : Int)) ((2 : Int)) : instr_kind_2R)) (fu := 4000) (orc := (orcw [(0, false), (1, false)] [] [(0, 13)] [] [])) (live := []) (u := Value.agg #[Value.string ⟨#[103, 101, 116]⟩, vi (1 : Int), vi (1 : Int), vi (2 : Int)]) (bl := []) (ob := [(Nat.blt 13 21, true), (a0 == Int.ofNat 13, true), ((decide (a0 ≥ (21 : Int))), false), ((decide (a0 < (0 : Int))), false)]) (by kernel_rfl) (oB <| obs_cons (beq_iff_eq.2 (show _ = ((13 : Nat) : Int) from by omega)) <| oN <| oN obs_nil) rfl (by decide) (by rfl) ⟨Eq.trans (show (Value.agg #[Value.string (strOf ([(103 : Int), (101 : Int), (116 : Int)] : List Int)), vi (1 : Int), vi (1 : Int), vi (2 : Int)] : Value) = Value.agg #[Value.string ⟨#[103, 101, 116]⟩, vi (1 : Int), vi (1 : Int), vi (2 : Int)] from (agg_eq (cons_eq rfl (cons_eq rfl (cons_eq rfl (cons_eq rfl rfl)))))) (by rfl), by rfl⟩ trivial
                ·
                 refine fx_ite (fun g16 => ?_) (fun g16 => ?_)
                 ·
                  exact fx_fin (r := (.r0 (([(115 : Int), (101 : Int), (116 : Int)] : List Int)) ((1 : Int)) ((2 : Int)) ((1 : Int)) : instr_kind_2R)) (fu := 4000) (orc := (orcw [(0, false), (1, false)] [] [(0, 14)] [] [])) (live := []) (u := Value.agg #[Value.string ⟨#[115, 101, 116]⟩, vi (1 : Int), vi (2 : Int), vi (1 : Int)]) (bl := []) (ob := [(Nat.blt 14 21, true), (a0 == Int.ofNat 14, true), ((decide (a0 ≥ (21 : Int))), false), ((decide (a0 < (0 : Int))), false)]) (by kernel_rfl) (oB <| obs_cons (beq_iff_eq.2 (show _ = ((14 : Nat) : Int) from by omega)) <| oN <| oN obs_nil) rfl (by decide) (by rfl) ⟨Eq.trans (show (Value.agg #[Value.string (strOf ([(115 : Int), (101 : Int), (116 : Int)] : List Int)), vi (1 : Int), vi (2 : Int), vi (1 : Int)] : Value) = Value.agg #[Value.string ⟨#[115, 101, 116]⟩, vi (1 : Int), vi (2 : Int), vi (1 : Int)] from (agg_eq (cons_eq rfl (cons_eq rfl (cons_eq rfl (cons_eq rfl rfl)))))) (by rfl), by rfl⟩ trivial
                 ·
                  refine fx_ite (fun g17 => ?_) (fun g17 => ?_)
                  ·
                   exact fx_fin (r := (.r0 (([(98 : Int), (101 : Int), (103 : Int), (105 : Int), (110 : Int)] : List Int)) ((0 : Int)) ((0 : Int)) ((0 : Int)) : instr_kind_2R)) (fu := 4000) (orc := (orcw [(0, false), (1, false)] [] [(0, 15)] [] [])) (live := []) (u := Value.agg #[Value.string ⟨#[98, 101, 103, 105, 110]⟩, vq, vq, vq]) (bl := []) (ob := [(Nat.blt 15 21, true), (a0 == Int.ofNat 15, true), ((decide (a0 ≥ (21 : Int))), false), ((decide (a0 < (0 : Int))), false)]) (by kernel_rfl) (oB <| obs_cons (beq_iff_eq.2 (show _ = ((15 : Nat) : Int) from by omega)) <| oN <| oN obs_nil) rfl (by decide) (by rfl) ⟨Eq.trans (show (Value.agg #[Value.string (strOf ([(98 : Int), (101 : Int), (103 : Int), (105 : Int), (110 : Int)] : List Int)), vq, vq, vq] : Value) = Value.agg #[Value.string ⟨#[98, 101, 103, 105, 110]⟩, vq, vq, vq] from (agg_eq (cons_eq rfl (cons_eq rfl (cons_eq rfl (cons_eq rfl rfl)))))) (by rfl), by rfl⟩ trivial
                  ·
                   refine fx_ite (fun g18 => ?_) (fun g18 => ?_)
                   ·
                    exact fx_fin (r := (.r0 (([(101 : Int), (108 : Int), (115 : Int), (101 : Int)] : List Int)) ((0 : Int)) ((0 : Int)) ((0 : Int)) : instr_kind_2R)) (fu := 4000) (orc := (orcw [(0, false), (1, false)] [] [(0, 16)] [] [])) (live := []) (u := Value.agg #[Value.string ⟨#[101, 108, 115, 101]⟩, vq, vq, vq]) (bl := []) (ob := [(Nat.blt 16 21, true), (a0 == Int.ofNat 16, true), ((decide (a0 ≥ (21 : Int))), false), ((decide (a0 < (0 : Int))), false)]) (by kernel_rfl) (oB <| obs_cons (beq_iff_eq.2 (show _ = ((16 : Nat) : Int) from by omega)) <| oN <| oN obs_nil) rfl (by decide) (by rfl) ⟨Eq.trans (show (Value.agg #[Value.string (strOf ([(101 : Int), (108 : Int), (115 : Int), (101 : Int)] : List Int)), vq, vq, vq] : Value) = Value.agg #[Value.string ⟨#[101, 108, 115, 101]⟩, vq, vq, vq] from (agg_eq (cons_eq rfl (cons_eq rfl (cons_eq rfl (cons_eq rfl rfl)))))) (by rfl), by rfl⟩ trivial
                   ·
                    refine fx_ite (fun g19 => ?_) (fun g19 => ?_)
                    ·
                     exact fx_fin (r := (.r0 (([(101 : Int), (110 : Int), (100 : Int)] : List Int)) ((0 : Int)) ((0 : Int)) ((0 : Int)) : instr_kind_2R)) (fu := 4000) (orc := (orcw [(0, false), (1, false)] [] [(0, 17)] [] [])) (live := []) (u := Value.agg #[Value.string ⟨#[101, 110, 100]⟩, vq, vq, vq]) (bl := []) (ob := [(Nat.blt 17 21, true), (a0 == Int.ofNat 17, true), ((decide (a0 ≥ (21 : Int))), false), ((decide (a0 < (0 : Int))), false)]) (by kernel_rfl) (oB <| obs_cons (beq_iff_eq.2 (show _ = ((17 : Nat) : Int) from by omega)) <| oN <| oN obs_nil) rfl (by decide) (by rfl) ⟨Eq.trans (show (Value.agg #[Value.string (strOf ([(101 : Int), (110 : Int), (100 : Int)] : List Int)), vq, vq, vq] : Value) = Value.agg #[Value.string ⟨#[101, 110, 100]⟩, vq, vq, vq] from (agg_eq (cons_eq rfl (cons_eq rfl (cons_eq rfl (cons_eq rfl rfl)))))) (by rfl), by rfl⟩ trivial
                    ·
                     refine fx_ite (fun g20 => ?_) (fun g20 => ?_)
                     ·
                      exact fx_fin (r := (.r0 (([(114 : Int), (101 : Int), (116 : Int), (114 : Int), (121 : Int)] : List Int)) ((0 : Int)) ((0 : Int)) ((0 : Int)) : instr_kind_2R)) (fu := 4000) (orc := (orcw [(0, false), (1, false)] [] [(0, 18)] [] [])) (live := []) (u := Value.agg #[Value.string ⟨#[114, 101, 116, 114, 121]⟩, vq, vq, vq]) (bl := []) (ob := [(Nat.blt 18 21, true), (a0 == Int.ofNat 18, true), ((decide (a0 ≥ (21 : Int))), false), ((decide (a0 < (0 : Int))), false)]) (by kernel_rfl) (oB <| obs_cons (beq_iff_eq.2 (show _ = ((18 : Nat) : Int) from by omega)) <| oN <| oN obs_nil) rfl (by decide) (by rfl) ⟨Eq.trans (show (Value.agg #[Value.string (strOf ([(114 : Int), (101 : Int), (116 : Int), (114 : Int), (121 : Int)] : List Int)), vq, vq, vq] : Value) = Value.agg #[Value.string ⟨#[114, 101, 116, 114, 121]⟩, vq, vq, vq] from (agg_eq (cons_eq rfl (cons_eq rfl (cons_eq rfl (cons_eq rfl rfl)))))) (by rfl), by rfl⟩ trivial
                     ·
                      refine fx_ite (fun g21 => ?_) (fun g21 => ?_)
                      ·
                       exact fx_fin (r := (.r0 (([(101 : Int), (109 : Int), (105 : Int), (116 : Int)] : List Int)) ((1 : Int)) ((0 : Int)) ((0 : Int)) : instr_kind_2R)) (fu := 4000) (orc := (orcw [(0, false), (1, false)] [] [(0, 19)] [] [])) (live := []) (u := Value.agg #[Value.string ⟨#[101, 109, 105, 116]⟩, vi (1 : Int), vq, vq]) (bl := []) (ob := [(Nat.blt 19 21, true), (a0 == Int.ofNat 19, true), ((decide (a0 ≥ (21 : Int))), false), ((decide (a0 < (0 : Int))), false)]) (by kernel_rfl) (oB <| obs_cons (beq_iff_eq.2 (show _ = ((19 : Nat) : Int) from by omega)) <| oN <| oN obs_nil) rfl (by decide) (by rfl) ⟨Eq.trans (show (Value.agg #[Value.string (strOf ([(101 : Int), (109 : Int), (105 : Int), (116 : Int)] : List Int)), vi (1 : Int), vq, vq] : Value) = Value.agg #[Value.string ⟨#[101, 109, 105, 116]⟩, vi (1 : Int), vq, vq] from (agg_eq (cons_eq rfl (cons_eq rfl (cons_eq rfl (cons_eq rfl rfl)))))) (by rfl), by rfl⟩ trivial
                      ·
                       exact fx_fin (r := (.r0 (([(104 : Int), (97 : Int), (108 : Int), (116 : Int)] : List Int)) ((0 : Int)) ((0 : Int)) ((0 : Int)) : instr_kind_2R)) (fu := 4000) (orc := (orcw [(0, false), (1, false)] [] [(0, 20)] [] [])) (live := []) (u := Value.agg #[Value.string ⟨#[104, 97, 108, 116]⟩, vq, vq, vq]) (bl := []) (ob := [(Nat.blt 20 21, true), (a0 == Int.ofNat 20, true), ((decide (a0 ≥ (21 : Int))), false), ((decide (a0 < (0 : Int))), false)]) (by kernel_rfl) (oB <| obs_cons (beq_iff_eq.2 (show _ = ((20 : Nat) : Int) from by omega)) <| oN <| oN obs_nil) rfl (by decide) (by rfl) ⟨Eq.trans (show (Value.agg #[Value.string (strOf ([(104 : Int), (97 : Int), (108 : Int), (116 : Int)] : List Int)), vq, vq, vq] : Value) = Value.agg #[Value.string ⟨#[104, 97, 108, 116]⟩, vq, vq, vq] from (agg_eq (cons_eq rfl (cons_eq rfl (cons_eq rfl (cons_eq rfl rfl)))))) (by rfl), by rfl⟩ trivial

theorem instr_kind_2_spec (a0 : Int) (N : Nat) (r : instr_kind_2R) (h : instr_kind_2 a0 N = some r) : LSpec Try.prog 22 #[vi a0] [] (instr_kind_2V a0 r) (instr_kind_2Po a0 r) :=
 fx_spec fit_Pk Try.func22 (by kernel_rfl) (by kernel_rfl) (fun r => by cases r <;> exact le_far _ rfl) (instr_kind_2_fx a0 N) h

noncomputable def instr_kind_2T0 (a0 : Int) (w0 : List Int) (w1 w2 w3 : Int) (n : Nat) : Told := .call [] (Value.agg #[Value.string (strOf w0), vi w1, vi w2, vi w3]) [] 0
def instr_kind_2P0 (A : Array Value) (a0 : Int) (w0 : List Int) (w1 w2 w3 : Int) (n : Nat) : Prop := CallSpec Try.prog 22 A [] (Value.agg #[Value.string (strOf w0), vi w1, vi w2, vi w3]) [] n 0

theorem instr_kind_2C0 (A : Array Value) (a0 : Int) (w0 : List Int) (w1 w2 w3 : Int) (N : Nat) (h : instr_kind_2 a0 N = some (.r0 w0 w1 w2 w3)) (n : Nat) (hA : A = #[vi a0]) (hnd : ([] : List Nat).Nodup) (hlt : ∀ k ∈ ([] : List Nat), k < n) : instr_kind_2P0 A a0 w0 w1 w2 w3  n :=
 cs_args hA (LSpec.callL (show LSpec Try.prog 22 #[vi a0] [] (Value.agg #[Value.string (strOf w0), vi w1, vi w2, vi w3]) [] from instr_kind_2_spec a0 N _ h) [] n [] rfl hnd hlt (show 0 ≤ 0 from by decide) (show ∀ j ∈ ([] : List Nat), j < 0 from by decide) (by rfl) trivial (by rfl) trivial trivial rfl rfl rfl rfl rfl)

noncomputable def instr_shape_widthV (a0 : Int) : instr_shape_widthR → Value
 | .r0 w0 => vi w0
noncomputable def instr_shape_widthPo (a0 : Int) : instr_shape_widthR → List (Option AObj)
 | .r0 w0 => []

theorem instr_shape_width_fx (a0 : Int) (N : Nat) : Fx Try.prog ext_Pk Try.f23 [] #[vi a0] (instr_shape_widthV a0) (instr_shape_widthPo a0) (instr_shape_width a0 N) := by
 unfold instr_shape_width
 refine fx_ite (fun g0 => ?_) (fun g0 => ?_)
 ·
  exact fx_fin (r := (.r0 ((1 : Int)) : instr_shape_widthR)) (fu := 4000) (orc := (orcw [(0, true)] [] [] [] [])) (live := []) (u := vi (1 : Int)) (bl := []) (ob := [((a0 == (1 : Int)), true)]) (by kernel_rfl) (oT obs_nil) rfl (by decide) (by rfl) rr trivial
 ·
  refine fx_ite (fun g1 => ?_) (fun g1 => ?_)
  ·
   exact fx_fin (r := (.r0 ((1 : Int)) : instr_shape_widthR)) (fu := 4000) (orc := (orcw [(0, false), (1, true)] [] [] [] [])) (live := []) (u := vi (1 : Int)) (bl := []) (ob := [((a0 == (2 : Int)), true), ((a0 == (1 : Int)), false)]) (by kernel_rfl) (oT <| oF obs_nil) rfl (by decide) (by rfl) rr trivial
  ·
   refine fx_ite (fun g2 => ?_) (fun g2 => ?_)
   ·
    exact fx_fin (r := (.r0 ((1 : Int)) : instr_shape_widthR)) (fu := 4000) (orc := (orcw [(0, false), (1, false), (2, true)] [] [] [] [])) (live := []) (u := vi (1 : Int)) (bl := []) (ob := [((a0 == (3 : Int)), true), ((a0 == (2 : Int)), false), ((a0 == (1 : Int)), false)]) (by kernel_rfl) (oT <| oF <| oF obs_nil) rfl (by decide) (by rfl) rr trivial
   ·
    refine fx_ite (fun g3 => ?_) (fun g3 => ?_)
    ·
     exact fx_fin (r := (.r0 ((2 : Int)) : instr_shape_widthR)) (fu := 4000) (orc := (orcw [(0, false), (1, false), (2, false), (3, true)] [] [] [] [])) (live := []) (u := vi (2 : Int)) (bl := []) (ob := [((a0 == (4 : Int)), true), ((a0 == (3 : Int)), false), ((a0 == (2 : Int)), false), ((a0 == (1 : Int)), false)]) (by kernel_rfl) (oT <| oF <| oF <| oF obs_nil) rfl (by decide) (by rfl) rr trivial
    ·
     refine fx_ite (fun g4 => ?_) (fun g4 => ?_)
     ·
      exact fx_fin (r := (.r0 ((3 : Int)) : instr_shape_widthR)) (fu := 4000) (orc := (orcw [(0, false), (1, false), (2, false), (3, false), (4, true)] [] [] [] [])) (live := []) (u := vi (3 : Int)) (bl := []) (ob := [((a0 == (5 : Int)), true), ((a0 == (4 : Int)), false), ((a0 == (3 : Int)), false), ((a0 == (2 : Int)), false), ((a0 == (1 : Int)), false)]) (by kernel_rfl) (oT <| oF <| oF <| oF <| oF obs_nil) rfl (by decide) (by rfl) rr trivial
     ·
      refine fx_ite (fun g5 => ?_) (fun g5 => ?_)
      ·
       exact fx_fin (r := (.r0 ((8 : Int)) : instr_shape_widthR)) (fu := 4000) (orc := (orcw [(0, false), (1, false), (2, false), (3, false), (4, false), (5, true)] [] [] [] [])) (live := []) (u := vi (8 : Int)) (bl := []) (ob := [((a0 == (6 : Int)), true), ((a0 == (5 : Int)), false), ((a0 == (4 : Int)), false), ((a0 == (3 : Int)), false), ((a0 == (2 : Int)), false), ((a0 == (1 : Int)), false)]) (by kernel_rfl) (oT <| oF <| oF <| oF <| oF <| oF obs_nil) rfl (by decide) (by rfl) rr trivial
      ·
       exact fx_fin (r := (.r0 ((0 : Int)) : instr_shape_widthR)) (fu := 4000) (orc := (orcw [(0, false), (1, false), (2, false), (3, false), (4, false), (5, false)] [] [] [] [])) (live := []) (u := vq) (bl := []) (ob := [((a0 == (6 : Int)), false), ((a0 == (5 : Int)), false), ((a0 == (4 : Int)), false), ((a0 == (3 : Int)), false), ((a0 == (2 : Int)), false), ((a0 == (1 : Int)), false)]) (by kernel_rfl) (oF <| oF <| oF <| oF <| oF <| oF obs_nil) rfl (by decide) (by rfl) rr trivial

theorem instr_shape_width_spec (a0 : Int) (N : Nat) (r : instr_shape_widthR) (h : instr_shape_width a0 N = some r) : LSpec Try.prog 23 #[vi a0] [] (instr_shape_widthV a0 r) (instr_shape_widthPo a0 r) :=
 fx_spec fit_Pk Try.func23 (by kernel_rfl) (by kernel_rfl) (fun r => by cases r <;> exact le_far _ rfl) (instr_shape_width_fx a0 N) h

noncomputable def instr_shape_widthT0 (a0 w0 : Int) (n : Nat) : Told := .call [] (vi w0) [] 0
def instr_shape_widthP0 (A : Array Value) (a0 w0 : Int) (n : Nat) : Prop := CallSpec Try.prog 23 A [] (vi w0) [] n 0

theorem instr_shape_widthC0 (A : Array Value) (a0 w0 : Int) (N : Nat) (h : instr_shape_width a0 N = some (.r0 w0)) (n : Nat) (hA : A = #[vi a0]) (hnd : ([] : List Nat).Nodup) (hlt : ∀ k ∈ ([] : List Nat), k < n) : instr_shape_widthP0 A a0 w0  n :=
 cs_args hA (LSpec.callL (show LSpec Try.prog 23 #[vi a0] [] (vi w0) [] from instr_shape_width_spec a0 N _ h) [] n [] rfl hnd hlt (show 0 ≤ 0 from by decide) (show ∀ j ∈ ([] : List Nat), j < 0 from by decide) (by rfl) trivial (by rfl) trivial trivial rfl rfl rfl rfl rfl)

noncomputable def instr_EncodeV (a0 a1 a2 a3 : Int) : instr_EncodeR → Value
 | .r0 w0 => Value.tuple #[vn, vi w0]
 | .r1 w0 => Value.tuple #[vs 0 0 w0.length w0.length, vq]
noncomputable def instr_EncodePo (a0 a1 a2 a3 : Int) : instr_EncodeR → List (Option AObj)
 | .r0 w0 => []
 | .r1 w0 => [some (.cells (rowV (encI .u8) w0) 5)]

def instr_EncodeHd : instr_EncodeX → Nat
 | .h1m0 v1 v2 v3 => 1
 | .h1m1 v0 v1 v2 v3 => 1
 | .h1m2 v0 v1 v2 v3 => 1
 | .h1m3 v0 v1 v2 v3 => 1
 | .h2m0 v0 v1 v2 v3 v4 => 2
 | .h2m1 v0 v1 v2 v3 v4 => 2
 | .h2m2 v0 v1 v2 v3 v4 => 2
noncomputable def instr_EncodeL (a0 a1 a2 a3 : Int) : instr_EncodeX → List (Nat × Value)
 | .h1m0 v1 v2 v3 => [(5, vs 0 0 1 1), (6, vp 1 0), (29, Value.agg #[vi v1, vi v2, vi v3]), (30, vq)]
 | .h1m1 v0 v1 v2 v3 => [(5, vs 0 0 v0.length v0.length), (6, vp 1 0), (29, Value.agg #[vi v1, vi v2, vi v3]), (30, vi (1 : Int))]
 | .h1m2 v0 v1 v2 v3 => [(5, vs 0 0 v0.length v0.length), (6, vp 1 0), (29, Value.agg #[vi v1, vi v2, vi v3]), (30, vi (2 : Int))]
 | .h1m3 v0 v1 v2 v3 => [(5, vs 0 0 v0.length v0.length), (6, vp 1 0), (29, Value.agg #[vi v1, vi v2, vi v3]), (30, vi (3 : Int))]
 | .h2m0 v0 v1 v2 v3 v4 => [(5, vs 0 0 v0.length v0.length), (6, vp 1 0), (7, vq), (9, vi v1), (29, Value.agg #[vi v2, vi v3, vi v4]), (30, vq)]
 | .h2m1 v0 v1 v2 v3 v4 => [(5, vs 0 0 v0.length v0.length), (6, vp 1 0), (7, vi (1 : Int)), (9, vi v1), (29, Value.agg #[vi v2, vi v3, vi v4]), (30, vi (1 : Int))]
 | .h2m2 v0 v1 v2 v3 v4 => [(5, vs 0 0 v0.length v0.length), (6, vp 1 0), (7, vi (2 : Int)), (9, vi v1), (29, Value.agg #[vi v2, vi v3, vi v4]), (30, vi (2 : Int))]
noncomputable def instr_EncodeH (a0 a1 a2 a3 : Int) : instr_EncodeX → List (Option AObj)
 | .h1m0 v1 v2 v3 => [some (.cells (rowV (encI .u8) ([(IntKind.u8.wrap a0)] : List Int)) 5), some (.cells [vi a1, vi a2, vi a3] 51)]
 | .h1m1 v0 v1 v2 v3 => [some (.cells (rowV (encI .u8) v0) 5), some (.cells [vi a1, vi a2, vi a3] 51)]
 | .h1m2 v0 v1 v2 v3 => [some (.cells (rowV (encI .u8) v0) 5), some (.cells [vi a1, vi a2, vi a3] 51)]
 | .h1m3 v0 v1 v2 v3 => [some (.cells (rowV (encI .u8) v0) 5), some (.cells [vi a1, vi a2, vi a3] 51)]
 | .h2m0 v0 v1 v2 v3 v4 => [some (.cells (rowV (encI .u8) v0) 5), some (.cells [vi a1, vi a2, vi a3] 51)]
 | .h2m1 v0 v1 v2 v3 v4 => [some (.cells (rowV (encI .u8) v0) 5), some (.cells [vi a1, vi a2, vi a3] 51)]
 | .h2m2 v0 v1 v2 v3 v4 => [some (.cells (rowV (encI .u8) v0) 5), some (.cells [vi a1, vi a2, vi a3] 51)]

noncomputable def instr_EncodeC : Nat → Code × List Kont
 | 1 => headOf [1, 1, 1, 1, 0, 1, 3] (bodyC Try.f15) []
 | 2 => headOf [1, 1, 1, 1, 0, 1, 3, 7, 1, 1, 0, 3, 1, 1, 3] (bodyC Try.f15) []
 | _ => (.skip, [])
def instr_EncodeIL : Nat → Bool
 | 1 => true
 | 2 => true
 | _ => true
noncomputable def instr_EncodeK (i : Nat) : List Kont := match instr_EncodeIL i with | true => .rnd i :: (instr_EncodeC i).2 | false => (instr_EncodeC i).2

noncomputable def instr_EncodeM (a0 a1 a2 a3 : Int) (N : Nat) : Mach := ⟨Try.f15, [], instr_EncodeX, instr_EncodeR, instr_EncodeStep a0 a1 a2 a3 N, instr_EncodeHd, instr_EncodeC, instr_EncodeIL, instr_EncodeL a0 a1 a2 a3, instr_EncodeH a0 a1 a2 a3, instr_EncodeV a0 a1 a2 a3, instr_EncodePo a0 a1 a2 a3⟩

theorem instr_Encode_ok1_0 (a0 a1 a2 a3 v1 v2 v3 : Int) (N : Nat) : (instr_EncodeM a0 a1 a2 a3 N).Ok Try.prog ext_Pk (.h1m0 v1 v2 v3 : instr_EncodeX) (instr_EncodeStep a0 a1 a2 a3 N (.h1m0 v1 v2 v3 : instr_EncodeX)) := by
 show (instr_EncodeM a0 a1 a2 a3 N).Ok Try.prog ext_Pk (.h1m0 v1 v2 v3 : instr_EncodeX) (instr_Encode_h1m0 a0 a1 a2 a3 N v1 v2 v3)
 unfold instr_Encode_h1m0
 refine Mach.ok_bind (fun z0 c0 => ?_)
 cases z0 with
 | r0 y0_0 =>
  exact Mach.ok_head (bK := instr_EncodeC 2) (M := instr_EncodeM a0 a1 a2 a3 N) (cd := 1000000) (cm := 0) (y := (.h2m0 (([(IntKind.u8.wrap a0)] : List Int)) ((IntKind.i64.wrap ((8 : Int) * (IntKind.i64.wrap (y0_0 - (1 : Int)))))) (v1) (v2) (v3) : instr_EncodeX)) (fu := 4000) (orc := (orcw [] [] [] [] [(0, (instr_shape_widthT0 (v1)  y0_0  2))])) (live := [0, 1]) (tv := fun _ => [some (vs 0 0 1 1), some (vp 1 0), some (vq), some (vi (IntKind.i64.wrap ((8 : Int) * (IntKind.i64.wrap (y0_0 - (1 : Int)))))), some (Value.agg #[vi v1, vi v2, vi v3]), some (vq)]) (bl := [some (.cells (rowV (encI .u8) ([(IntKind.u8.wrap a0)] : List Int)) 5), some (.cells [vi a1, vi a2, vi a3] 51)]) (ob := [(dP (instr_shape_widthP0 #[vi v1] (v1)  y0_0  2), true)]) rfl rfl (show ∀ j ∈ rids (instr_EncodeC 2).2, j ∈ rids (instr_EncodeK 1) from by decide +kernel) (fun gv => by kernel_rfl) (obs_cons (dP_of (instr_shape_widthC0 #[vi v1] (v1)  y0_0 N c0  2 rfl (by decide) (by decide))) obs_nil) rfl (by decide) (by rfl) (fun _ => ⟨⟨Eq.trans (show (vs 0 0 ([(IntKind.u8.wrap a0)] : List Int).length ([(IntKind.u8.wrap a0)] : List Int).length : Value) = vs 0 0 1 1 from (slice_eq rfl eqA eqA)) (by rfl), by rfl⟩, ⟨rr, ⟨rr, ⟨rr, ⟨rr, ⟨rr, trivial⟩⟩⟩⟩⟩⟩) ⟨(same_row (E := (encI .u8)) (α := Int) _ ([(IntKind.u8.wrap a0)] : List Int) _), ⟨⟨rfl, ⟨[], by rfl⟩, by rfl⟩, trivial⟩⟩

theorem instr_Encode_ok1_1 (a0 a1 a2 a3 : Int) (v0 : List Int) (v1 v2 v3 : Int) (N : Nat) : (instr_EncodeM a0 a1 a2 a3 N).Ok Try.prog ext_Pk (.h1m1 v0 v1 v2 v3 : instr_EncodeX) (instr_EncodeStep a0 a1 a2 a3 N (.h1m1 v0 v1 v2 v3 : instr_EncodeX)) := by
 show (instr_EncodeM a0 a1 a2 a3 N).Ok Try.prog ext_Pk (.h1m1 v0 v1 v2 v3 : instr_EncodeX) (instr_Encode_h1m1 a0 a1 a2 a3 N v0 v1 v2 v3)
 unfold instr_Encode_h1m1
 refine Mach.ok_bind (fun z0 c0 => ?_)
 cases z0 with
 | r0 y0_0 =>
  exact Mach.ok_head (bK := instr_EncodeC 2) (M := instr_EncodeM a0 a1 a2 a3 N) (cd := 1000000) (cm := 0) (y := (.h2m1 (v0) ((IntKind.i64.wrap ((8 : Int) * (IntKind.i64.wrap (y0_0 - (1 : Int)))))) (v1) (v2) (v3) : instr_EncodeX)) (fu := 4000) (orc := (orcw [] [] [] [] [(0, (instr_shape_widthT0 (v2)  y0_0  2))])) (live := [0, 1]) (tv := fun _ => [some (vs 0 0 v0.length v0.length), some (vp 1 0), some (vi (1 : Int)), some (vi (IntKind.i64.wrap ((8 : Int) * (IntKind.i64.wrap (y0_0 - (1 : Int)))))), some (Value.agg #[vi v1, vi v2, vi v3]), some (vi (1 : Int))]) (bl := [some (.cells (rowV (encI .u8) v0) 5), some (.cells [vi a1, vi a2, vi a3] 51)]) (ob := [(dP (instr_shape_widthP0 #[vi v2] (v2)  y0_0  2), true)]) rfl rfl (show ∀ j ∈ rids (instr_EncodeC 2).2, j ∈ rids (instr_EncodeK 1) from by decide +kernel) (fun gv => by kernel_rfl) (obs_cons (dP_of (instr_shape_widthC0 #[vi v2] (v2)  y0_0 N c0  2 rfl (by decide) (by decide))) obs_nil) rfl (by decide) (by rfl) (fun _ => ⟨rr, ⟨rr, ⟨rr, ⟨rr, ⟨rr, ⟨rr, trivial⟩⟩⟩⟩⟩⟩) ⟨(same_row (E := (encI .u8)) (α := Int) _ v0 _), ⟨⟨rfl, ⟨[], by rfl⟩, by rfl⟩, trivial⟩⟩

theorem instr_Encode_ok1_2 (a0 a1 a2 a3 : Int) (v0 : List Int) (v1 v2 v3 : Int) (N : Nat) : (instr_EncodeM a0 a1 a2 a3 N).Ok Try.prog ext_Pk (.h1m2 v0 v1 v2 v3 : instr_EncodeX) (instr_EncodeStep a0 a1 a2 a3 N (.h1m2 v0 v1 v2 v3 : instr_EncodeX)) := by
 show (instr_EncodeM a0 a1 a2 a3 N).Ok Try.prog ext_Pk (.h1m2 v0 v1 v2 v3 : instr_EncodeX) (instr_Encode_h1m2 a0 a1 a2 a3 N v0 v1 v2 v3)
 unfold instr_Encode_h1m2
 refine Mach.ok_bind (fun z0 c0 => ?_)
 cases z0 with
 | r0 y0_0 =>
  exact Mach.ok_head (bK := instr_EncodeC 2) (M := instr_EncodeM a0 a1 a2 a3 N) (cd := 1000000) (cm := 0) (y := (.h2m2 (v0) ((IntKind.i64.wrap ((8 : Int) * (IntKind.i64.wrap (y0_0 - (1 : Int)))))) (v1) (v2) (v3) : instr_EncodeX)) (fu := 4000) (orc := (orcw [] [] [] [] [(0, (instr_shape_widthT0 (v3)  y0_0  2))])) (live := [0, 1]) (tv := fun _ => [some (vs 0 0 v0.length v0.length), some (vp 1 0), some (vi (2 : Int)), some (vi (IntKind.i64.wrap ((8 : Int) * (IntKind.i64.wrap (y0_0 - (1 : Int)))))), some (Value.agg #[vi v1, vi v2, vi v3]), some (vi (2 : Int))]) (bl := [some (.cells (rowV (encI .u8) v0) 5), some (.cells [vi a1, vi a2, vi a3] 51)]) (ob := [(dP (instr_shape_widthP0 #[vi v3] (v3)  y0_0  2), true)]) rfl rfl (show ∀ j ∈ rids (instr_EncodeC 2).2, j ∈ rids (instr_EncodeK 1) from by decide +kernel) (fun gv => by kernel_rfl) (obs_cons (dP_of (instr_shape_widthC0 #[vi v3] (v3)  y0_0 N c0  2 rfl (by decide) (by decide))) obs_nil) rfl (by decide) (by rfl) (fun _ => ⟨rr, ⟨rr, ⟨rr, ⟨rr, ⟨rr, ⟨rr, trivial⟩⟩⟩⟩⟩⟩) ⟨(same_row (E := (encI .u8)) (α := Int) _ v0 _), ⟨⟨rfl, ⟨[], by rfl⟩, by rfl⟩, trivial⟩⟩

theorem instr_Encode_ok1_3 (a0 a1 a2 a3 : Int) (v0 : List Int) (v1 v2 v3 : Int) (N : Nat) : (instr_EncodeM a0 a1 a2 a3 N).Ok Try.prog ext_Pk (.h1m3 v0 v1 v2 v3 : instr_EncodeX) (instr_EncodeStep a0 a1 a2 a3 N (.h1m3 v0 v1 v2 v3 : instr_EncodeX)) := by
 show (instr_EncodeM a0 a1 a2 a3 N).Ok Try.prog ext_Pk (.h1m3 v0 v1 v2 v3 : instr_EncodeX) (instr_Encode_h1m3 a0 a1 a2 a3 N v0 v1 v2 v3)
 unfold instr_Encode_h1m3
 exact Mach.ok_fin (M := instr_EncodeM a0 a1 a2 a3 N) (cd := 1000000) (cm := 0) (r := (.r1 (v0) : instr_EncodeR)) (fu := 4000) (orc := (orcw [] [] [] [] [])) (live := [0]) (u := Value.tuple #[vs 0 0 v0.length v0.length, vq]) (bl := [some (.cells (rowV (encI .u8) v0) 5)]) (ob := []) (fun gv => by kernel_rfl) obs_nil rfl (by decide) (by rfl) rr ⟨(same_row (E := (encI .u8)) (α := Int) _ v0 _), trivial⟩

theorem instr_Encode_ok2_0 (a0 a1 a2 a3 : Int) (v0 : List Int) (v1 v2 v3 v4 : Int) (N : Nat) : (instr_EncodeM a0 a1 a2 a3 N).Ok Try.prog ext_Pk (.h2m0 v0 v1 v2 v3 v4 : instr_EncodeX) (instr_EncodeStep a0 a1 a2 a3 N (.h2m0 v0 v1 v2 v3 v4 : instr_EncodeX)) := by
 show (instr_EncodeM a0 a1 a2 a3 N).Ok Try.prog ext_Pk (.h2m0 v0 v1 v2 v3 v4 : instr_EncodeX) (instr_Encode_h2m0 a0 a1 a2 a3 N v0 v1 v2 v3 v4)
 unfold instr_Encode_h2m0
 refine Mach.ok_ite (fun g0 => ?_) (fun g0 => ?_)
 ·
  refine Mach.ok_ite (fun g1 => ?_) (fun g1 => ?_)
  ·
   refine Mach.ok_ite (fun g2 => ?_) (fun g2 => ?_)
   ·
    exact Mach.ok_next (M := instr_EncodeM a0 a1 a2 a3 N) (cd := 1000000) (cm := 0) (y := (.h2m0 ((v0 ++ ([(IntKind.u8.wrap ((IntKind.u64.wrap a1) / (2 ^ (v1).toNat : Int)))] : List Int))) ((v1 - (8 : Int))) (v2) (v3) (v4) : instr_EncodeX)) (fu := 4000) (orc := (orcw [(0, true)] [(3, (v1 - (8 : Int)))] [] [] [(0, .sh (v1).toNat), (1, .ap 1 [Value.int .u8 (IntKind.u8.wrap ((IntKind.u64.wrap a1) / (2 ^ (v1).toNat : Int)))] (rowV (encI .u8) (v0 ++ ([(IntKind.u8.wrap ((IntKind.u64.wrap a1) / (2 ^ (v1).toNat : Int)))] : List Int))))])) (live := [3, 1]) (tv := fun _ => [some (vs 3 0 (v0.length + 1) (v0.length + 1)), some (vp 1 0), some (vq), some (vi (v1 - (8 : Int))), some (Value.agg #[vi v2, vi v3, vi v4]), some (vq)]) (bl := [some (.cells (rowV (encI .u8) (v0 ++ ([(IntKind.u8.wrap ((IntKind.u64.wrap a1) / (2 ^ (v1).toNat : Int)))] : List Int))) 5), some (.cells [vi a1, vi a2, vi a3] 51)]) (ob := [((IntKind.i64.wrap (v1 - (8 : Int))) == (v1 - (8 : Int)), true), (dP ((1 = 1 ∧ takeN (1 * 1) (List.drop 0 [Value.int .u8 (IntKind.u8.wrap ((IntKind.u64.wrap a1) / (2 ^ (v1).toNat : Int)))]) = some [Value.int .u8 (IntKind.u8.wrap ((IntKind.u64.wrap a1) / (2 ^ (v1).toNat : Int)))] ∧ allB cell1 [Value.int .u8 (IntKind.u8.wrap ((IntKind.u64.wrap a1) / (2 ^ (v1).toNat : Int)))] = true) ∧ 0 < 1 ∧ 1 ≤ 100000 ∧ v0.length < v0.length + 1 ∧ v0.length ≤ 100000 ∧ v0.length * 1 ≤ (List.length (rowV (encI .u8) v0)) ∧ List.take (v0.length * 1) (rowV (encI .u8) v0) ++ [Value.int .u8 (IntKind.u8.wrap ((IntKind.u64.wrap a1) / (2 ^ (v1).toNat : Int)))] = (rowV (encI .u8) (v0 ++ ([(IntKind.u8.wrap ((IntKind.u64.wrap a1) / (2 ^ (v1).toNat : Int)))] : List Int)))), true), (dP (v1 = Int.ofNat (v1).toNat ∧ (v1).toNat ≤ IntKind.u64.bits), true), ((decide (v1 ≥ (0 : Int))), true)]) rfl (show 2 ∈ rids (instr_EncodeK 2) from by decide +kernel) (fun gv => by kernel_rfl) (obs_cons (beq_iff_eq.2 ((wrap_i64 ltA).trans (by first | rfl | omega))) <| obs_cons (dP_of ⟨⟨rfl, ⟨rfl, rfl⟩⟩, by omega, by omega, ltA, by omega, (rowV_dst (E := (encI .u8)) (L := v0) (M := ([(IntKind.u8.wrap ((IntKind.u64.wrap a1) / (2 ^ (v1).toNat : Int)))] : List Int)) (n := v0.length) (show _ = _ * 1 from rfl) (by omega) (R := (v0 ++ ([(IntKind.u8.wrap ((IntKind.u64.wrap a1) / (2 ^ (v1).toNat : Int)))] : List Int))) (by rw [List.take_of_length_le (by omega)]))⟩) <| obs_cons (dP_of ⟨by first | rfl | exact idx_eq (by omega), show _ ≤ 64 from by omega⟩) <| oY obs_nil) rfl (by decide) (by rfl) (fun _ => ⟨⟨Eq.trans (show (vs 0 0 (v0 ++ ([(IntKind.u8.wrap ((IntKind.u64.wrap a1) / (2 ^ (v1).toNat : Int)))] : List Int)).length (v0 ++ ([(IntKind.u8.wrap ((IntKind.u64.wrap a1) / (2 ^ (v1).toNat : Int)))] : List Int)).length : Value) = vs 0 0 (v0.length + 1) (v0.length + 1) from (slice_eq rfl eqA eqA)) (by rfl), by rfl⟩, ⟨rr, ⟨rr, ⟨rr, ⟨rr, ⟨rr, trivial⟩⟩⟩⟩⟩⟩) ⟨(same_row (E := (encI .u8)) (α := Int) _ (v0 ++ ([(IntKind.u8.wrap ((IntKind.u64.wrap a1) / (2 ^ (v1).toNat : Int)))] : List Int)) _), ⟨⟨rfl, ⟨[], by rfl⟩, by rfl⟩, trivial⟩⟩
   ·
    exact Mach.ok_none
  ·
   exact Mach.ok_none
 ·
  exact Mach.ok_next (M := instr_EncodeM a0 a1 a2 a3 N) (cd := 1000000) (cm := 0) (y := (.h1m1 (v0) (v2) (v3) (v4) : instr_EncodeX)) (fu := 4000) (orc := (orcw [(0, false)] [] [] [] [])) (live := [0, 1]) (tv := fun _ => [some (vs 0 0 v0.length v0.length), some (vp 1 0), some (Value.agg #[vi v2, vi v3, vi v4]), some (vi (1 : Int))]) (bl := [some (.cells (rowV (encI .u8) v0) 5), some (.cells [vi a1, vi a2, vi a3] 51)]) (ob := [((decide (v1 ≥ (0 : Int))), false)]) rfl (show 1 ∈ rids (instr_EncodeK 2) from by decide +kernel) (fun gv => by kernel_rfl) (oN obs_nil) rfl (by decide) (by rfl) (fun _ => ⟨rr, ⟨rr, ⟨rr, ⟨rr, trivial⟩⟩⟩⟩) ⟨(same_row (E := (encI .u8)) (α := Int) _ v0 _), ⟨⟨rfl, ⟨[], by rfl⟩, by rfl⟩, trivial⟩⟩

theorem instr_Encode_ok2_1 (a0 a1 a2 a3 : Int) (v0 : List Int) (v1 v2 v3 v4 : Int) (N : Nat) : (instr_EncodeM a0 a1 a2 a3 N).Ok Try.prog ext_Pk (.h2m1 v0 v1 v2 v3 v4 : instr_EncodeX) (instr_EncodeStep a0 a1 a2 a3 N (.h2m1 v0 v1 v2 v3 v4 : instr_EncodeX)) := by
 show (instr_EncodeM a0 a1 a2 a3 N).Ok Try.prog ext_Pk (.h2m1 v0 v1 v2 v3 v4 : instr_EncodeX) (instr_Encode_h2m1 a0 a1 a2 a3 N v0 v1 v2 v3 v4)
 unfold instr_Encode_h2m1
 refine Mach.ok_ite (fun g0 => ?_) (fun g0 => ?_)
 ·
  refine Mach.ok_ite (fun g1 => ?_) (fun g1 => ?_)
  ·
   refine Mach.ok_ite (fun g2 => ?_) (fun g2 => ?_)
   ·
    exact Mach.ok_next (M := instr_EncodeM a0 a1 a2 a3 N) (cd := 1000000) (cm := 0) (y := (.h2m1 ((v0 ++ ([(IntKind.u8.wrap ((IntKind.u64.wrap a2) / (2 ^ (v1).toNat : Int)))] : List Int))) ((v1 - (8 : Int))) (v2) (v3) (v4) : instr_EncodeX)) (fu := 4000) (orc := (orcw [(0, true)] [(3, (v1 - (8 : Int)))] [] [] [(0, .sh (v1).toNat), (1, .ap 1 [Value.int .u8 (IntKind.u8.wrap ((IntKind.u64.wrap a2) / (2 ^ (v1).toNat : Int)))] (rowV (encI .u8) (v0 ++ ([(IntKind.u8.wrap ((IntKind.u64.wrap a2) / (2 ^ (v1).toNat : Int)))] : List Int))))])) (live := [3, 1]) (tv := fun _ => [some (vs 3 0 (v0.length + 1) (v0.length + 1)), some (vp 1 0), some (vi (1 : Int)), some (vi (v1 - (8 : Int))), some (Value.agg #[vi v2, vi v3, vi v4]), some (vi (1 : Int))]) (bl := [some (.cells (rowV (encI .u8) (v0 ++ ([(IntKind.u8.wrap ((IntKind.u64.wrap a2) / (2 ^ (v1).toNat : Int)))] : List Int))) 5), some (.cells [vi a1, vi a2, vi a3] 51)]) (ob := [((IntKind.i64.wrap (v1 - (8 : Int))) == (v1 - (8 : Int)), true), (dP ((1 = 1 ∧ takeN (1 * 1) (List.drop 0 [Value.int .u8 (IntKind.u8.wrap ((IntKind.u64.wrap a2) / (2 ^ (v1).toNat : Int)))]) = some [Value.int .u8 (IntKind.u8.wrap ((IntKind.u64.wrap a2) / (2 ^ (v1).toNat : Int)))] ∧ allB cell1 [Value.int .u8 (IntKind.u8.wrap ((IntKind.u64.wrap a2) / (2 ^ (v1).toNat : Int)))] = true) ∧ 0 < 1 ∧ 1 ≤ 100000 ∧ v0.length < v0.length + 1 ∧ v0.length ≤ 100000 ∧ v0.length * 1 ≤ (List.length (rowV (encI .u8) v0)) ∧ List.take (v0.length * 1) (rowV (encI .u8) v0) ++ [Value.int .u8 (IntKind.u8.wrap ((IntKind.u64.wrap a2) / (2 ^ (v1).toNat : Int)))] = (rowV (encI .u8) (v0 ++ ([(IntKind.u8.wrap ((IntKind.u64.wrap a2) / (2 ^ (v1).toNat : Int)))] : List Int)))), true), (dP (v1 = Int.ofNat (v1).toNat ∧ (v1).toNat ≤ IntKind.u64.bits), true), ((decide (v1 ≥ (0 : Int))), true)]) rfl (show 2 ∈ rids (instr_EncodeK 2) from by decide +kernel) (fun gv => by kernel_rfl) (obs_cons (beq_iff_eq.2 ((wrap_i64 ltA).trans (by first | rfl | omega))) <| obs_cons (dP_of ⟨⟨rfl, ⟨rfl, rfl⟩⟩, by omega, by omega, ltA, by omega, (rowV_dst (E := (encI .u8)) (L := v0) (M := ([(IntKind.u8.wrap ((IntKind.u64.wrap a2) / (2 ^ (v1).toNat : Int)))] : List Int)) (n := v0.length) (show _ = _ * 1 from rfl) (by omega) (R := (v0 ++ ([(IntKind.u8.wrap ((IntKind.u64.wrap a2) / (2 ^ (v1).toNat : Int)))] : List Int))) (by rw [List.take_of_length_le (by omega)]))⟩) <| obs_cons (dP_of ⟨by first | rfl | exact idx_eq (by omega), show _ ≤ 64 from by omega⟩) <| oY obs_nil) rfl (by decide) (by rfl) (fun _ => ⟨⟨Eq.trans (show (vs 0 0 (v0 ++ ([(IntKind.u8.wrap ((IntKind.u64.wrap a2) / (2 ^ (v1).toNat : Int)))] : List Int)).length (v0 ++ ([(IntKind.u8.wrap ((IntKind.u64.wrap a2) / (2 ^ (v1).toNat : Int)))] : List Int)).length : Value) = vs 0 0 (v0.length + 1) (v0.length + 1) from (slice_eq rfl eqA eqA)) (by rfl), by rfl⟩, ⟨rr, ⟨rr, ⟨rr, ⟨rr, ⟨rr, trivial⟩⟩⟩⟩⟩⟩) ⟨(same_row (E := (encI .u8)) (α := Int) _ (v0 ++ ([(IntKind.u8.wrap ((IntKind.u64.wrap a2) / (2 ^ (v1).toNat : Int)))] : List Int)) _), ⟨⟨rfl, ⟨[], by rfl⟩, by rfl⟩, trivial⟩⟩
   ·
    exact Mach.ok_none
  ·
   exact Mach.ok_none
 ·
  exact Mach.ok_next (M := instr_EncodeM a0 a1 a2 a3 N) (cd := 1000000) (cm := 0) (y := (.h1m2 (v0) (v2) (v3) (v4) : instr_EncodeX)) (fu := 4000) (orc := (orcw [(0, false)] [] [] [] [])) (live := [0, 1]) (tv := fun _ => [some (vs 0 0 v0.length v0.length), some (vp 1 0), some (Value.agg #[vi v2, vi v3, vi v4]), some (vi (2 : Int))]) (bl := [some (.cells (rowV (encI .u8) v0) 5), some (.cells [vi a1, vi a2, vi a3] 51)]) (ob := [((decide (v1 ≥ (0 : Int))), false)]) rfl (show 1 ∈ rids (instr_EncodeK 2) from by decide +kernel) (fun gv => by kernel_rfl) (oN obs_nil) rfl (by decide) (by rfl) (fun _ => ⟨rr, ⟨rr, ⟨rr, ⟨rr, trivial⟩⟩⟩⟩) ⟨(same_row (E := (encI .u8)) (α := Int) _ v0 _), ⟨⟨rfl, ⟨[], by rfl⟩, by rfl⟩, trivial⟩⟩

theorem instr_Encode_ok2_2 (a0 a1 a2 a3 : Int) (v0 : List Int) (v1 v2 v3 v4 : Int) (N : Nat) : (instr_EncodeM a0 a1 a2 a3 N).Ok Try.prog ext_Pk (.h2m2 v0 v1 v2 v3 v4 : instr_EncodeX) (instr_EncodeStep a0 a1 a2 a3 N (.h2m2 v0 v1 v2 v3 v4 : instr_EncodeX)) := by
 show (instr_EncodeM a0 a1 a2 a3 N).Ok Try.prog ext_Pk (.h2m2 v0 v1 v2 v3 v4 : instr_EncodeX) (instr_Encode_h2m2 a0 a1 a2 a3 N v0 v1 v2 v3 v4)
 unfold instr_Encode_h2m2
 refine Mach.ok_ite (fun g0 => ?_) (fun g0 => ?_)
 ·
  refine Mach.ok_ite (fun g1 => ?_) (fun g1 => ?_)
  ·
   refine Mach.ok_ite (fun g2 => ?_) (fun g2 => ?_)
   ·
    exact Mach.ok_next (M := instr_EncodeM a0 a1 a2 a3 N) (cd := 1000000) (cm := 0) (y := (.h2m2 ((v0 ++ ([(IntKind.u8.wrap ((IntKind.u64.wrap a3) / (2 ^ (v1).toNat : Int)))] : List Int))) ((v1 - (8 : Int))) (v2) (v3) (v4) : instr_EncodeX)) (fu := 4000) (orc := (orcw [(0, true)] [(3, (v1 - (8 : Int)))] [] [] [(0, .sh (v1).toNat), (1, .ap 1 [Value.int .u8 (IntKind.u8.wrap ((IntKind.u64.wrap a3) / (2 ^ (v1).toNat : Int)))] (rowV (encI .u8) (v0 ++ ([(IntKind.u8.wrap ((IntKind.u64.wrap a3) / (2 ^ (v1).toNat : Int)))] : List Int))))])) (live := [3, 1]) (tv := fun _ => [some (vs 3 0 (v0.length + 1) (v0.length + 1)), some (vp 1 0), some (vi (2 : Int)), some (vi (v1 - (8 : Int))), some (Value.agg #[vi v2, vi v3, vi v4]), some (vi (2 : Int))]) (bl := [some (.cells (rowV (encI .u8) (v0 ++ ([(IntKind.u8.wrap ((IntKind.u64.wrap a3) / (2 ^ (v1).toNat : Int)))] : List Int))) 5), some (.cells [vi a1, vi a2, vi a3] 51)]) (ob := [((IntKind.i64.wrap (v1 - (8 : Int))) == (v1 - (8 : Int)), true), (dP ((1 = 1 ∧ takeN (1 * 1) (List.drop 0 [Value.int .u8 (IntKind.u8.wrap ((IntKind.u64.wrap a3) / (2 ^ (v1).toNat : Int)))]) = some [Value.int .u8 (IntKind.u8.wrap ((IntKind.u64.wrap a3) / (2 ^ (v1).toNat : Int)))] ∧ allB cell1 [Value.int .u8 (IntKind.u8.wrap ((IntKind.u64.wrap a3) / (2 ^ (v1).toNat : Int)))] = true) ∧ 0 < 1 ∧ 1 ≤ 100000 ∧ v0.length < v0.length + 1 ∧ v0.length ≤ 100000 ∧ v0.length * 1 ≤ (List.length (rowV (encI .u8) v0)) ∧ List.take (v0.length * 1) (rowV (encI .u8) v0) ++ [Value.int .u8 (IntKind.u8.wrap ((IntKind.u64.wrap a3) / (2 ^ (v1).toNat : Int)))] = (rowV (encI .u8) (v0 ++ ([(IntKind.u8.wrap ((IntKind.u64.wrap a3) / (2 ^ (v1).toNat : Int)))] : List Int)))), true), (dP (v1 = Int.ofNat (v1).toNat ∧ (v1).toNat ≤ IntKind.u64.bits), true), ((decide (v1 ≥ (0 : Int))), true)]) rfl (show 2 ∈ rids (instr_EncodeK 2) from by decide +kernel) (fun gv => by kernel_rfl) (obs_cons (beq_iff_eq.2 ((wrap_i64 ltA).trans (by first | rfl | omega))) <| obs_cons (dP_of ⟨⟨rfl, ⟨rfl, rfl⟩⟩, by omega, by omega, ltA, by omega, (rowV_dst (E := (encI .u8)) (L := v0) (M := ([(IntKind.u8.wrap ((IntKind.u64.wrap a3) / (2 ^ (v1).toNat : Int)))] : List Int)) (n := v0.length) (show _ = _ * 1 from rfl) (by omega) (R := (v0 ++ ([(IntKind.u8.wrap ((IntKind.u64.wrap a3) / (2 ^ (v1).toNat : Int)))] : List Int))) (by rw [List.take_of_length_le (by omega)]))⟩) <| obs_cons (dP_of ⟨by first | rfl | exact idx_eq (by omega), show _ ≤ 64 from by omega⟩) <| oY obs_nil) rfl (by decide) (by rfl) (fun _ => ⟨⟨Eq.trans (show (vs 0 0 (v0 ++ ([(IntKind.u8.wrap ((IntKind.u64.wrap a3) / (2 ^ (v1).toNat : Int)))] : List Int)).length (v0 ++ ([(IntKind.u8.wrap ((IntKind.u64.wrap a3) / (2 ^ (v1).toNat : Int)))] : List Int)).length : Value) = vs 0 0 (v0.length + 1) (v0.length + 1) from (slice_eq rfl eqA eqA)) (by rfl), by rfl⟩, ⟨rr, ⟨rr, ⟨rr, ⟨rr, ⟨rr, trivial⟩⟩⟩⟩⟩⟩) ⟨(same_row (E := (encI .u8)) (α := Int) _ (v0 ++ ([(IntKind.u8.wrap ((IntKind.u64.wrap a3) / (2 ^ (v1).toNat : Int)))] : List Int)) _), ⟨⟨rfl, ⟨[], by rfl⟩, by rfl⟩, trivial⟩⟩
   ·
    exact Mach.ok_none
  ·
   exact Mach.ok_none
 ·
  exact Mach.ok_next (M := instr_EncodeM a0 a1 a2 a3 N) (cd := 1000000) (cm := 0) (y := (.h1m3 (v0) (v2) (v3) (v4) : instr_EncodeX)) (fu := 4000) (orc := (orcw [(0, false)] [] [] [] [])) (live := [0, 1]) (tv := fun _ => [some (vs 0 0 v0.length v0.length), some (vp 1 0), some (Value.agg #[vi v2, vi v3, vi v4]), some (vi (3 : Int))]) (bl := [some (.cells (rowV (encI .u8) v0) 5), some (.cells [vi a1, vi a2, vi a3] 51)]) (ob := [((decide (v1 ≥ (0 : Int))), false)]) rfl (show 1 ∈ rids (instr_EncodeK 2) from by decide +kernel) (fun gv => by kernel_rfl) (oN obs_nil) rfl (by decide) (by rfl) (fun _ => ⟨rr, ⟨rr, ⟨rr, ⟨rr, trivial⟩⟩⟩⟩) ⟨(same_row (E := (encI .u8)) (α := Int) _ v0 _), ⟨⟨rfl, ⟨[], by rfl⟩, by rfl⟩, trivial⟩⟩

theorem instr_Encode_en (a0 a1 a2 a3 : Int) (N : Nat) : (instr_EncodeM a0 a1 a2 a3 N).Enter Try.prog ext_Pk #[Value.agg #[vi a0, vi a1, vi a2, vi a3]] (instr_EncodeIn a0 a1 a2 a3 N) := by
 unfold instr_EncodeIn
 refine Mach.en_bind (fun z0 c0 => ?_)
 cases z0 with
 | r0 y0_0 =>
  refine Mach.en_ite (fun g1 => ?_) (fun g1 => ?_)
  ·
   exact Mach.en_fin (M := instr_EncodeM a0 a1 a2 a3 N) (cd := 1000000) (cm := 0) (r := (.r0 (y0_0) : instr_EncodeR)) (fu := 4000) (orc := (orcw [(0, true)] [] [] [] [(0, (instr_CheckT0 (a0) (a1) (a2) (a3)  y0_0  1))])) (live := []) (u := Value.tuple #[vn, vi y0_0]) (bl := []) (ob := [((y0_0 != (0 : Int)), true), (dP (instr_CheckP0 #[Value.agg #[vi a0, vi a1, vi a2, vi a3]] (a0) (a1) (a2) (a3)  y0_0  1), true)]) (by kernel_rfl) (oD <| obs_cons (dP_of (instr_CheckC0 #[Value.agg #[vi a0, vi a1, vi a2, vi a3]] (a0) (a1) (a2) (a3)  y0_0 N c0  1 rfl (by decide) (by decide))) obs_nil) rfl (by decide) (by rfl) rr trivial
  ·
   refine Mach.en_bind (fun z2 c2 => ?_)
   cases z2 with
   | r0 y2_0 y2_1 y2_2 y2_3 =>
    exact Mach.en_head (bK := instr_EncodeC 1) (M := instr_EncodeM a0 a1 a2 a3 N) (cd := 1000000) (cm := 0) (y := (.h1m0 (y2_1) (y2_2) (y2_3) : instr_EncodeX)) (fu := 4000) (orc := (orcw [(0, false)] [] [] [] [(0, (instr_CheckT0 (a0) (a1) (a2) (a3)  y0_0  1)), (2, (instr_kind_2T0 (a0)  y2_0 y2_1 y2_2 y2_3  3))])) (live := [1, 2]) (tv := [some (vs 1 0 1 1), some (vp 2 0), some (Value.agg #[vi y2_1, vi y2_2, vi y2_3]), some (vq)]) (bl := [some (.cells [Value.int .u8 (IntKind.u8.wrap a0)] 5), some (.cells [vi a1, vi a2, vi a3] 51)]) (ob := [(dP (instr_kind_2P0 #[vi a0] (a0)  y2_0 y2_1 y2_2 y2_3  3), true), ((y0_0 != (0 : Int)), false), (dP (instr_CheckP0 #[Value.agg #[vi a0, vi a1, vi a2, vi a3]] (a0) (a1) (a2) (a3)  y0_0  1), true)]) rfl rfl (show rids (instr_EncodeC 1).2 = [] from rfl) (by kernel_rfl) (obs_cons (dP_of (instr_kind_2C0 #[vi a0] (a0)  y2_0 y2_1 y2_2 y2_3 N c2  3 rfl (by decide) (by decide))) <| oE <| obs_cons (dP_of (instr_CheckC0 #[Value.agg #[vi a0, vi a1, vi a2, vi a3]] (a0) (a1) (a2) (a3)  y0_0 N c0  1 rfl (by decide) (by decide))) obs_nil) rfl (by decide) (by rfl) ⟨rr, ⟨rr, ⟨rr, ⟨rr, trivial⟩⟩⟩⟩ ⟨(same_cells (E := (encI .u8)) _ (L := ([(IntKind.u8.wrap a0)] : List Int)) _ (show ([Value.int .u8 (IntKind.u8.wrap a0)] : List Value) = rowV (encI .u8) ([(IntKind.u8.wrap a0)] : List Int) from rfl)), ⟨⟨rfl, ⟨[], by rfl⟩, by rfl⟩, trivial⟩⟩

theorem instr_Encode_spec (a0 a1 a2 a3 : Int) (N : Nat) (r : instr_EncodeR) (h : instr_Encode a0 a1 a2 a3 N = some r) : LSpec Try.prog 15 #[Value.agg #[vi a0, vi a1, vi a2, vi a3]] [] (instr_EncodeV a0 a1 a2 a3 r) (instr_EncodePo a0 a1 a2 a3 r) :=
 Mach.spec fit_Pk (instr_EncodeM a0 a1 a2 a3 N) Try.func15 (by kernel_rfl) (by kernel_rfl) (fun x => by cases x <;> exact le_far _ rfl) (fun r => by cases r <;> exact le_far _ rfl) (fun x => by
  cases x with
  | h1m0 _ _ _ => exact fun _ => (show ¬ (1 ∈ rids (instr_EncodeC 1).2) from by decide +kernel)
  | h1m1 _ _ _ _ => exact fun _ => (show ¬ (1 ∈ rids (instr_EncodeC 1).2) from by decide +kernel)
  | h1m2 _ _ _ _ => exact fun _ => (show ¬ (1 ∈ rids (instr_EncodeC 1).2) from by decide +kernel)
  | h1m3 _ _ _ _ => exact fun _ => (show ¬ (1 ∈ rids (instr_EncodeC 1).2) from by decide +kernel)
  | h2m0 _ _ _ _ _ => exact fun _ => (show ¬ (2 ∈ rids (instr_EncodeC 2).2) from by decide +kernel)
  | h2m1 _ _ _ _ _ => exact fun _ => (show ¬ (2 ∈ rids (instr_EncodeC 2).2) from by decide +kernel)
  | h2m2 _ _ _ _ _ => exact fun _ => (show ¬ (2 ∈ rids (instr_EncodeC 2).2) from by decide +kernel)
  ) (fun x => (show (instr_EncodeM a0 a1 a2 a3 N).Ok Try.prog ext_Pk x (instr_EncodeStep a0 a1 a2 a3 N x) from by
  cases x with
  | h1m0 v1 v2 v3 => exact instr_Encode_ok1_0 a0 a1 a2 a3 v1 v2 v3 N
  | h1m1 v0 v1 v2 v3 => exact instr_Encode_ok1_1 a0 a1 a2 a3 v0 v1 v2 v3 N
  | h1m2 v0 v1 v2 v3 => exact instr_Encode_ok1_2 a0 a1 a2 a3 v0 v1 v2 v3 N
  | h1m3 v0 v1 v2 v3 => exact instr_Encode_ok1_3 a0 a1 a2 a3 v0 v1 v2 v3 N
  | h2m0 v0 v1 v2 v3 v4 => exact instr_Encode_ok2_0 a0 a1 a2 a3 v0 v1 v2 v3 v4 N
  | h2m1 v0 v1 v2 v3 v4 => exact instr_Encode_ok2_1 a0 a1 a2 a3 v0 v1 v2 v3 v4 N
  | h2m2 v0 v1 v2 v3 v4 => exact instr_Encode_ok2_2 a0 a1 a2 a3 v0 v1 v2 v3 v4 N
  )) (instr_Encode_en a0 a1 a2 a3 N) (n := N) h

noncomputable def instr_EncodeT0 (a0 a1 a2 a3 w0 : Int) (n : Nat) : Told := .call [] (Value.tuple #[vn, vi w0]) [] 0
def instr_EncodeP0 (A : Array Value) (a0 a1 a2 a3 w0 : Int) (n : Nat) : Prop := CallSpec Try.prog 15 A [] (Value.tuple #[vn, vi w0]) [] n 0

theorem instr_EncodeC0 (A : Array Value) (a0 a1 a2 a3 w0 : Int) (N : Nat) (h : instr_Encode a0 a1 a2 a3 N = some (.r0 w0)) (n : Nat) (hA : A = #[Value.agg #[vi a0, vi a1, vi a2, vi a3]]) (hnd : ([] : List Nat).Nodup) (hlt : ∀ k ∈ ([] : List Nat), k < n) : instr_EncodeP0 A a0 a1 a2 a3 w0  n :=
 cs_args hA (LSpec.callL (show LSpec Try.prog 15 #[Value.agg #[vi a0, vi a1, vi a2, vi a3]] [] (Value.tuple #[vn, vi w0]) [] from instr_Encode_spec a0 a1 a2 a3 N _ h) [] n [] rfl hnd hlt (show 0 ≤ 0 from by decide) (show ∀ j ∈ ([] : List Nat), j < 0 from by decide) (by rfl) trivial (by rfl) trivial trivial rfl rfl rfl rfl rfl)

noncomputable def instr_EncodeT1 (a0 a1 a2 a3 : Int) (w0 : List Int) (n : Nat) : Told := .call [] (Value.tuple #[vs n 0 w0.length w0.length, vq]) [(n, some (.cells (rowV (encI .u8) w0) 5))] 1
def instr_EncodeP1 (A : Array Value) (a0 a1 a2 a3 : Int) (w0 : List Int) (n : Nat) : Prop := CallSpec Try.prog 15 A [] (Value.tuple #[vs n 0 w0.length w0.length, vq]) [(n, some (.cells (rowV (encI .u8) w0) 5))] n 1

theorem instr_EncodeC1 (A : Array Value) (a0 a1 a2 a3 : Int) (w0 : List Int) (N : Nat) (h : instr_Encode a0 a1 a2 a3 N = some (.r1 w0)) (n : Nat) (hA : A = #[Value.agg #[vi a0, vi a1, vi a2, vi a3]]) (hnd : ([] : List Nat).Nodup) (hlt : ∀ k ∈ ([] : List Nat), k < n) : instr_EncodeP1 A a0 a1 a2 a3 w0  n :=
 cs_args hA (LSpec.callL (show LSpec Try.prog 15 #[Value.agg #[vi a0, vi a1, vi a2, vi a3]] [] (Value.tuple #[vs 0 0 w0.length w0.length, vq]) [some (.cells (rowV (encI .u8) w0) 5)] from instr_Encode_spec a0 a1 a2 a3 N _ h) [] n [0] rfl hnd hlt (show 0 ≤ 1 from by decide) (show ∀ j ∈ ([0] : List Nat), j < 1 from by decide) (by rfl) trivial (by rfl) ⟨(under_row _ _ _), trivial⟩ ⟨(by decide), trivial⟩ rfl rfl rfl rfl (cons_eq (pair_eq rfl (some_eq (renO_row _ _ _))) rfl))

noncomputable def prog_sumV (L0 : List Int) (n1 n2 : Nat) : prog_sumR → Value
 | .r0 w1 => Value.int .u8 w1
noncomputable def prog_sumPo (L0 : List Int) (n1 n2 : Nat) : prog_sumR → List (Option AObj)
 | .r0 w1 => [some (.cells (rowV (encI .u8) L0) 5)]

def prog_sumHd : prog_sumX → Nat
 | .h1m0 v4 v5 => 1
noncomputable def prog_sumL (L0 : List Int) (n1 n2 : Nat) : prog_sumX → List (Nat × Value)
 | .h1m0 v4 v5 => [(3, vp 1 0), (4, Value.func (.func 24) #[] #[vp 1 0]), (8, vs 0 0 n1 n2), (9, vi (n1 : Int)), (10, vi (v4 : Int))]
noncomputable def prog_sumH (L0 : List Int) (n1 n2 : Nat) : prog_sumX → List (Option AObj)
 | .h1m0 v4 v5 => [some (.cells (rowV (encI .u8) L0) 5), some (.cells [Value.int .u8 v5] 5)]

noncomputable def prog_sumC : Nat → Code × List Kont
 | 1 => headOf [1, 1, 1, 0, 1, 3] (bodyC Try.f16) []
 | _ => (.skip, [])
def prog_sumIL : Nat → Bool
 | 1 => true
 | _ => true
noncomputable def prog_sumK (i : Nat) : List Kont := match prog_sumIL i with | true => .rnd i :: (prog_sumC i).2 | false => (prog_sumC i).2

noncomputable def prog_sumM (L0 : List Int) (n1 n2 N : Nat) : Mach := ⟨Try.f16, [.cells (rowV (encI .u8) L0) 5], prog_sumX, prog_sumR, prog_sumStep L0 n1 n2 N, prog_sumHd, prog_sumC, prog_sumIL, prog_sumL L0 n1 n2, prog_sumH L0 n1 n2, prog_sumV L0 n1 n2, prog_sumPo L0 n1 n2⟩

theorem prog_sum_ok1_0 (L0 : List Int) (n1 n2 v4 : Nat) (v5 : Int) (N : Nat) : (prog_sumM L0 n1 n2 N).Ok Try.prog ext_Pk (.h1m0 v4 v5 : prog_sumX) (prog_sumStep L0 n1 n2 N (.h1m0 v4 v5 : prog_sumX)) := by
 show (prog_sumM L0 n1 n2 N).Ok Try.prog ext_Pk (.h1m0 v4 v5 : prog_sumX) (prog_sum_h1m0 L0 n1 n2 N v4 v5)
 unfold prog_sum_h1m0
 refine Mach.ok_ite (fun g0 => ?_) (fun g0 => ?_)
 ·
  refine Mach.ok_ite (fun g1 => ?_) (fun g1 => ?_)
  ·
   refine Mach.ok_ite (fun g2 => ?_) (fun g2 => ?_)
   ·
    exact Mach.ok_next (M := prog_sumM L0 n1 n2 N) (cd := 1000000) (cm := 0) (y := (.h1m0 ((v4 + 1)) ((IntKind.u8.wrap (v5 + (L0.getD v4 0)))) : prog_sumX)) (fu := 4000) (orc := (orcw [(0, true)] [(1, (((v4 + 1) : Nat) : Int))] [(0, v4)] [(0, [.k .u8 (L0.getD v4 0)])] [])) (live := [0, 1]) (tv := fun _ => [some (vp 1 0), some (Value.func (.func 24) #[] #[vp 1 0]), some (vs 0 0 n1 n2), some (vi (n1 : Int)), some (vi (((v4 + 1) : Nat) : Int))]) (bl := [some (.cells (rowV (encI .u8) L0) 5), some (.cells [Value.int .u8 (IntKind.u8.wrap (v5 + (L0.getD v4 0)))] 5)]) (ob := [((IntKind.i64.wrap ((v4 : Int) + (1 : Int))) == (((v4 + 1) : Nat) : Int), true), (sameR (takeN 1 (List.drop (0 + (v4 * 1)) (rowV (encI .u8) L0))) [.k .u8 (L0.getD v4 0)], true), (Nat.blt v4 n1, true), ((v4 : Int) == Int.ofNat v4, true), ((decide ((v4 : Int) < (n1 : Int))), true)]) rfl (show 1 ∈ rids (prog_sumK 1) from by decide +kernel) (fun gv => by kernel_rfl) (obs_cons (beq_iff_eq.2 ((wrap_i64 ltA).trans (by first | rfl | omega))) <| obs_cons (rowV_load (E := (encI .u8)) (L := L0) (i := v4) (q := 0) (by omega) (show (0 + (v4 * 1)) = v4 * 1 + 0 from by omega) (show 0 + 1 ≤ 1 from by decide) rfl rfl) <| oB <| oI <| oY obs_nil) rfl (by decide) (by rfl) (fun _ => ⟨rr, ⟨rr, ⟨rr, ⟨rr, ⟨rr, trivial⟩⟩⟩⟩⟩) ⟨(same_row (E := (encI .u8)) (α := Int) _ L0 _), ⟨⟨rfl, ⟨[], by rfl⟩, by rfl⟩, trivial⟩⟩
   ·
    exact Mach.ok_none
  ·
   exact Mach.ok_none
 ·
  exact Mach.ok_fin (M := prog_sumM L0 n1 n2 N) (cd := 1000000) (cm := 0) (r := (.r0 (v5) : prog_sumR)) (fu := 4000) (orc := (orcw [(0, false)] [] [] [] [])) (live := [0]) (u := Value.int .u8 v5) (bl := [some (.cells (rowV (encI .u8) L0) 5)]) (ob := [((decide ((v4 : Int) < (n1 : Int))), false)]) (fun gv => by kernel_rfl) (oN obs_nil) rfl (by decide) (by rfl) rr ⟨(same_row (E := (encI .u8)) (α := Int) _ L0 _), trivial⟩

theorem prog_sum_en (L0 : List Int) (n1 n2 N : Nat) : (prog_sumM L0 n1 n2 N).Enter Try.prog ext_Pk #[vs 0 0 n1 n2] (prog_sumIn L0 n1 n2 N) := by
 unfold prog_sumIn
 exact Mach.en_head (bK := prog_sumC 1) (M := prog_sumM L0 n1 n2 N) (cd := 1000000) (cm := 0) (y := (.h1m0 (0) ((0 : Int)) : prog_sumX)) (fu := 4000) (orc := (orcw [] [] [] [] [])) (live := [0, 1]) (tv := [some (vp 1 0), some (Value.func (.func 24) #[] #[vp 1 0]), some (vs 0 0 n1 n2), some (vi (n1 : Int)), some (vq)]) (bl := [some (.cells (rowV (encI .u8) L0) 5), some (.cells [Value.int .u8 (0 : Int)] 5)]) (ob := []) rfl rfl (show rids (prog_sumC 1).2 = [] from rfl) (by kernel_rfl) obs_nil rfl (by decide) (by rfl) ⟨rr, ⟨rr, ⟨rr, ⟨rr, ⟨⟨Eq.trans (show (vi ((0 : Nat) : Int) : Value) = vq from (congrArg (Value.int .i64) (by first | rfl | omega))) (by rfl), by rfl⟩, trivial⟩⟩⟩⟩⟩ ⟨(same_row (E := (encI .u8)) (α := Int) _ L0 _), ⟨⟨rfl, ⟨[], by rfl⟩, by rfl⟩, trivial⟩⟩

theorem prog_sum_spec (L0 : List Int) (n1 n2 N : Nat) (r : prog_sumR) (h : prog_sum L0 n1 n2 N = some r) : LSpec Try.prog 16 #[vs 0 0 n1 n2] [.cells (rowV (encI .u8) L0) 5] (prog_sumV L0 n1 n2 r) (prog_sumPo L0 n1 n2 r) :=
 Mach.spec fit_Pk (prog_sumM L0 n1 n2 N) Try.func16 (by kernel_rfl) (by kernel_rfl) (fun x => by cases x <;> exact le_far _ rfl) (fun r => by cases r <;> exact le_far _ rfl) (fun x => by
  cases x with
  | h1m0 _ _ => exact fun _ => (show ¬ (1 ∈ rids (prog_sumC 1).2) from by decide +kernel)
  ) (fun x => (show (prog_sumM L0 n1 n2 N).Ok Try.prog ext_Pk x (prog_sumStep L0 n1 n2 N x) from by
  cases x with
  | h1m0 v4 v5 => exact prog_sum_ok1_0 L0 n1 n2 v4 v5 N
  )) (prog_sum_en L0 n1 n2 N) (n := N) h

noncomputable def prog_sumT0 (L0 : List Int) (n1 n2 : Nat) (w1 : Int) (k0 n : Nat) : Told := .call [(k0, .cells (rowV (encI .u8) L0) 5)] (Value.int .u8 w1) [] 0
def prog_sumP0 (A : Array Value) (L0 : List Int) (n1 n2 : Nat) (w1 : Int) (k0 n : Nat) : Prop := CallSpec Try.prog 16 A [(k0, .cells (rowV (encI .u8) L0) 5)] (Value.int .u8 w1) [] n 0

theorem prog_sumC0 (A : Array Value) (L0 : List Int) (n1 n2 : Nat) (w1 : Int) (N : Nat) (h : prog_sum L0 n1 n2 N = some (.r0 w1)) (k0 n : Nat) (hA : A = #[vs k0 0 n1 n2]) (hnd : ([k0] : List Nat).Nodup) (hlt : ∀ k ∈ ([k0] : List Nat), k < n) : prog_sumP0 A L0 n1 n2 w1 k0 n :=
 cs_args hA (LSpec.callL (show LSpec Try.prog 16 #[vs 0 0 n1 n2] [.cells (rowV (encI .u8) L0) 5] (Value.int .u8 w1) [some (.cells (rowV (encI .u8) L0) 5)] from prog_sum_spec L0 n1 n2 N _ h) [k0] n [] rfl hnd hlt (show 1 ≤ 1 from by decide) (show ∀ j ∈ ([] : List Nat), j < 1 from by decide) (by rfl) ⟨(under_row _ _ _), trivial⟩ (by rfl) ⟨(under_row _ _ _), trivial⟩ ⟨.inr rfl, trivial⟩ rfl rfl rfl (cons_eq (pair_eq rfl (renO_row _ _ _)) rfl) rfl)

noncomputable def prog_EncodeV (o0 : Nat) (L1 : List R_iiii) (n2 n3 : Nat) (O0 : Obj) : prog_EncodeR → Value
 | .r0 w2 => Value.tuple #[vn, vi w2]
 | .r1 w2 => Value.tuple #[vs 1 0 w2.length w2.length, vq]
noncomputable def prog_EncodePo (o0 : Nat) (L1 : List R_iiii) (n2 n3 : Nat) (O0 : Obj) : prog_EncodeR → List (Option AObj)
 | .r0 w2 => [some (.ro O0)]
 | .r1 w2 => [some (.ro O0), some (.cells (rowV (encI .u8) w2) 5)]

def prog_EncodeHd : prog_EncodeX → Nat
 | .h1m0 v2 v6 => 1
noncomputable def prog_EncodeL (o0 : Nat) (L1 : List R_iiii) (n2 n3 : Nat) (O0 : Obj) : prog_EncodeX → List (Nat × Value)
 | .h1m0 v2 v6 => [(4, vs 1 0 v2.length v2.length), (22, vs 0 o0 n2 n3), (23, vi (n2 : Int)), (24, vi (v6 : Int))]
noncomputable def prog_EncodeH (o0 : Nat) (L1 : List R_iiii) (n2 n3 : Nat) (O0 : Obj) : prog_EncodeX → List (Option AObj)
 | .h1m0 v2 v6 => [some (.ro O0), some (.cells (rowV (encI .u8) v2) 5)]

noncomputable def prog_EncodeC : Nat → Code × List Kont
 | 1 => headOf [1, 1, 1, 0, 1, 3] (bodyC Try.f7) []
 | _ => (.skip, [])
def prog_EncodeIL : Nat → Bool
 | 1 => true
 | _ => true
noncomputable def prog_EncodeK (i : Nat) : List Kont := match prog_EncodeIL i with | true => .rnd i :: (prog_EncodeC i).2 | false => (prog_EncodeC i).2

noncomputable def prog_EncodeM (o0 : Nat) (L1 : List R_iiii) (n2 n3 : Nat) (O0 : Obj) (N : Nat) : Mach := ⟨Try.f7, [.ro O0], prog_EncodeX, prog_EncodeR, prog_EncodeStep L1 n2 n3 N, prog_EncodeHd, prog_EncodeC, prog_EncodeIL, prog_EncodeL o0 L1 n2 n3 O0, prog_EncodeH o0 L1 n2 n3 O0, prog_EncodeV o0 L1 n2 n3 O0, prog_EncodePo o0 L1 n2 n3 O0⟩

theorem prog_Encode_ok1_0 (o0 : Nat) (L1 : List R_iiii) (n2 n3 : Nat) (O0 : Obj) (F0 : RO_iiii O0 o0 L1) (v2 : List Int) (v6 N : Nat) : (prog_EncodeM o0 L1 n2 n3 O0 N).Ok Try.prog ext_Pk (.h1m0 v2 v6 : prog_EncodeX) (prog_EncodeStep L1 n2 n3 N (.h1m0 v2 v6 : prog_EncodeX)) := by
 show (prog_EncodeM o0 L1 n2 n3 O0 N).Ok Try.prog ext_Pk (.h1m0 v2 v6 : prog_EncodeX) (prog_Encode_h1m0 L1 n2 n3 N v2 v6)
 unfold prog_Encode_h1m0
 refine Mach.ok_ite (fun g0 => ?_) (fun g0 => ?_)
 ·
  refine Mach.ok_ite (fun g1 => ?_) (fun g1 => ?_)
  ·
   refine Mach.ok_bind (fun z2 c2 => ?_)
   cases z2 with
   | r0 y2_0 =>
    refine Mach.ok_ite (fun g3 => ?_) (fun g3 => ?_)
    ·
     exact Mach.ok_fin (M := prog_EncodeM o0 L1 n2 n3 O0 N) (cd := 1000000) (cm := 0) (r := (.r0 ((110 : Int)) : prog_EncodeR)) (fu := 4000) (orc := (orcw [(0, true), (1, true)] [] [(0, v6)] [(0, [.i (L1.getD v6 R_iiii.z).a0, .i (L1.getD v6 R_iiii.z).a1, .i (L1.getD v6 R_iiii.z).a2, .i (L1.getD v6 R_iiii.z).a3])] [(1, (instr_EncodeT0 ((L1.getD v6 R_iiii.z).a0) ((L1.getD v6 R_iiii.z).a1) ((L1.getD v6 R_iiii.z).a2) ((L1.getD v6 R_iiii.z).a3)  y2_0  3))])) (live := [0]) (u := Value.tuple #[vn, vi (110 : Int)]) (bl := [some (.ro O0)]) (ob := [((y2_0 != (0 : Int)), true), (dP (instr_EncodeP0 #[Value.agg #[vi (L1.getD v6 R_iiii.z).a0, vi (L1.getD v6 R_iiii.z).a1, vi (L1.getD v6 R_iiii.z).a2, vi (L1.getD v6 R_iiii.z).a3]] ((L1.getD v6 R_iiii.z).a0) ((L1.getD v6 R_iiii.z).a1) ((L1.getD v6 R_iiii.z).a2) ((L1.getD v6 R_iiii.z).a3)  y2_0  3), true), (sameR (roRow O0 (o0 + (v6 * 4)) 4) [.i (L1.getD v6 R_iiii.z).a0, .i (L1.getD v6 R_iiii.z).a1, .i (L1.getD v6 R_iiii.z).a2, .i (L1.getD v6 R_iiii.z).a3], true), (Nat.blt v6 n2, true), ((v6 : Int) == Int.ofNat v6, true), ((decide ((v6 : Int) < (n2 : Int))), true)]) (fun gv => by kernel_rfl) (oD <| obs_cons (dP_of (instr_EncodeC0 #[Value.agg #[vi (L1.getD v6 R_iiii.z).a0, vi (L1.getD v6 R_iiii.z).a1, vi (L1.getD v6 R_iiii.z).a2, vi (L1.getD v6 R_iiii.z).a3]] ((L1.getD v6 R_iiii.z).a0) ((L1.getD v6 R_iiii.z).a1) ((L1.getD v6 R_iiii.z).a2) ((L1.getD v6 R_iiii.z).a3)  y2_0 N c2  3 rfl (by decide) (by decide))) <| obs_cons ((show (o0 + v6 * 4 + 0) = (o0 + (v6 * 4)) from by omega) ▸ F0 v6 (by omega) 0 4 (show 0 + 4 ≤ 4 from by decide)) <| oB <| oI <| oY obs_nil) rfl (by decide) (by rfl) rr ⟨rfl, trivial⟩
    ·
     refine Mach.ok_ite (fun g4 => ?_) (fun g4 => ?_)
     ·
      exact Mach.ok_next (M := prog_EncodeM o0 L1 n2 n3 O0 N) (cd := 1000000) (cm := 0) (y := (.h1m0 (v2) ((v6 + 1)) : prog_EncodeX)) (fu := 4000) (orc := (orcw [(0, true), (1, false)] [(0, (((v6 + 1) : Nat) : Int))] [(0, v6)] [(0, [.i (L1.getD v6 R_iiii.z).a0, .i (L1.getD v6 R_iiii.z).a1, .i (L1.getD v6 R_iiii.z).a2, .i (L1.getD v6 R_iiii.z).a3])] [(1, (instr_EncodeT0 ((L1.getD v6 R_iiii.z).a0) ((L1.getD v6 R_iiii.z).a1) ((L1.getD v6 R_iiii.z).a2) ((L1.getD v6 R_iiii.z).a3)  y2_0  3))])) (live := [0, 1]) (tv := fun _ => [some (vs 1 0 v2.length v2.length), some (vs 0 o0 n2 n3), some (vi (n2 : Int)), some (vi (((v6 + 1) : Nat) : Int))]) (bl := [some (.ro O0), some (.cells (rowV (encI .u8) v2) 5)]) (ob := [((IntKind.i64.wrap ((v6 : Int) + (1 : Int))) == (((v6 + 1) : Nat) : Int), true), ((y2_0 != (0 : Int)), false), (dP (instr_EncodeP0 #[Value.agg #[vi (L1.getD v6 R_iiii.z).a0, vi (L1.getD v6 R_iiii.z).a1, vi (L1.getD v6 R_iiii.z).a2, vi (L1.getD v6 R_iiii.z).a3]] ((L1.getD v6 R_iiii.z).a0) ((L1.getD v6 R_iiii.z).a1) ((L1.getD v6 R_iiii.z).a2) ((L1.getD v6 R_iiii.z).a3)  y2_0  3), true), (sameR (roRow O0 (o0 + (v6 * 4)) 4) [.i (L1.getD v6 R_iiii.z).a0, .i (L1.getD v6 R_iiii.z).a1, .i (L1.getD v6 R_iiii.z).a2, .i (L1.getD v6 R_iiii.z).a3], true), (Nat.blt v6 n2, true), ((v6 : Int) == Int.ofNat v6, true), ((decide ((v6 : Int) < (n2 : Int))), true)]) rfl (show 1 ∈ rids (prog_EncodeK 1) from by decide +kernel) (fun gv => by kernel_rfl) (obs_cons (beq_iff_eq.2 ((wrap_i64 ltA).trans (by first | rfl | omega))) <| oE <| obs_cons (dP_of (instr_EncodeC0 #[Value.agg #[vi (L1.getD v6 R_iiii.z).a0, vi (L1.getD v6 R_iiii.z).a1, vi (L1.getD v6 R_iiii.z).a2, vi (L1.getD v6 R_iiii.z).a3]] ((L1.getD v6 R_iiii.z).a0) ((L1.getD v6 R_iiii.z).a1) ((L1.getD v6 R_iiii.z).a2) ((L1.getD v6 R_iiii.z).a3)  y2_0 N c2  3 rfl (by decide) (by decide))) <| obs_cons ((show (o0 + v6 * 4 + 0) = (o0 + (v6 * 4)) from by omega) ▸ F0 v6 (by omega) 0 4 (show 0 + 4 ≤ 4 from by decide)) <| oB <| oI <| oY obs_nil) rfl (by decide) (by rfl) (fun _ => ⟨rr, ⟨rr, ⟨rr, ⟨rr, trivial⟩⟩⟩⟩) ⟨rfl, ⟨(same_row (E := (encI .u8)) (α := Int) _ v2 _), trivial⟩⟩
     ·
      exact Mach.ok_none
   | r1 y2_0 =>
    refine Mach.ok_ite (fun g3 => ?_) (fun g3 => ?_)
    ·
     refine Mach.ok_ite (fun g4 => ?_) (fun g4 => ?_)
     ·
      exact Mach.ok_next (M := prog_EncodeM o0 L1 n2 n3 O0 N) (cd := 1000000) (cm := 0) (y := (.h1m0 (v2) ((v6 + 1)) : prog_EncodeX)) (fu := 4000) (orc := (orcw [(0, true)] [(0, (((v6 + 1) : Nat) : Int))] [(0, v6)] [(0, [.i (L1.getD v6 R_iiii.z).a0, .i (L1.getD v6 R_iiii.z).a1, .i (L1.getD v6 R_iiii.z).a2, .i (L1.getD v6 R_iiii.z).a3])] [(1, (instr_EncodeT1 ((L1.getD v6 R_iiii.z).a0) ((L1.getD v6 R_iiii.z).a1) ((L1.getD v6 R_iiii.z).a2) ((L1.getD v6 R_iiii.z).a3)  y2_0  3)), (2, .ap0)])) (live := [0, 1]) (tv := fun _ => [some (vs 1 0 v2.length v2.length), some (vs 0 o0 n2 n3), some (vi (n2 : Int)), some (vi (((v6 + 1) : Nat) : Int))]) (bl := [some (.ro O0), some (.cells (rowV (encI .u8) v2) 5)]) (ob := [((IntKind.i64.wrap ((v6 : Int) + (1 : Int))) == (((v6 + 1) : Nat) : Int), true), (dP (0 = y2_0.length ∧ takeN (y2_0.length * 1) (List.drop 0 (rowV (encI .u8) y2_0)) = some [] ∧ allB cell1 [] = true), true), (dP (instr_EncodeP1 #[Value.agg #[vi (L1.getD v6 R_iiii.z).a0, vi (L1.getD v6 R_iiii.z).a1, vi (L1.getD v6 R_iiii.z).a2, vi (L1.getD v6 R_iiii.z).a3]] ((L1.getD v6 R_iiii.z).a0) ((L1.getD v6 R_iiii.z).a1) ((L1.getD v6 R_iiii.z).a2) ((L1.getD v6 R_iiii.z).a3)  y2_0  3), true), (sameR (roRow O0 (o0 + (v6 * 4)) 4) [.i (L1.getD v6 R_iiii.z).a0, .i (L1.getD v6 R_iiii.z).a1, .i (L1.getD v6 R_iiii.z).a2, .i (L1.getD v6 R_iiii.z).a3], true), (Nat.blt v6 n2, true), ((v6 : Int) == Int.ofNat v6, true), ((decide ((v6 : Int) < (n2 : Int))), true)]) rfl (show 1 ∈ rids (prog_EncodeK 1) from by decide +kernel) (fun gv => by kernel_rfl) (obs_cons (beq_iff_eq.2 ((wrap_i64 ltA).trans (by first | rfl | omega))) <| obs_cons (dP_of ⟨by omega, by rw [show y2_0.length = 0 by omega]; rfl, rfl⟩) <| obs_cons (dP_of (instr_EncodeC1 #[Value.agg #[vi (L1.getD v6 R_iiii.z).a0, vi (L1.getD v6 R_iiii.z).a1, vi (L1.getD v6 R_iiii.z).a2, vi (L1.getD v6 R_iiii.z).a3]] ((L1.getD v6 R_iiii.z).a0) ((L1.getD v6 R_iiii.z).a1) ((L1.getD v6 R_iiii.z).a2) ((L1.getD v6 R_iiii.z).a3)  y2_0 N c2  3 rfl (by decide) (by decide))) <| obs_cons ((show (o0 + v6 * 4 + 0) = (o0 + (v6 * 4)) from by omega) ▸ F0 v6 (by omega) 0 4 (show 0 + 4 ≤ 4 from by decide)) <| oB <| oI <| oY obs_nil) rfl (by decide) (by rfl) (fun _ => ⟨rr, ⟨rr, ⟨rr, ⟨rr, trivial⟩⟩⟩⟩) ⟨rfl, ⟨(same_row (E := (encI .u8)) (α := Int) _ v2 _), trivial⟩⟩
     ·
      exact Mach.ok_none
    ·
     refine Mach.ok_ite (fun g4 => ?_) (fun g4 => ?_)
     ·
      refine Mach.ok_ite (fun g5 => ?_) (fun g5 => ?_)
      ·
       refine Mach.ok_ite (fun g6 => ?_) (fun g6 => ?_)
       ·
        exact Mach.ok_next (M := prog_EncodeM o0 L1 n2 n3 O0 N) (cd := 1000000) (cm := 0) (y := (.h1m0 ((v2 ++ y2_0)) ((v6 + 1)) : prog_EncodeX)) (fu := 4000) (orc := (orcw [(0, true)] [(0, (((v6 + 1) : Nat) : Int))] [(0, v6)] [(0, [.i (L1.getD v6 R_iiii.z).a0, .i (L1.getD v6 R_iiii.z).a1, .i (L1.getD v6 R_iiii.z).a2, .i (L1.getD v6 R_iiii.z).a3])] [(1, (instr_EncodeT1 ((L1.getD v6 R_iiii.z).a0) ((L1.getD v6 R_iiii.z).a1) ((L1.getD v6 R_iiii.z).a2) ((L1.getD v6 R_iiii.z).a3)  y2_0  3)), (2, .ap y2_0.length (rowV (encI .u8) y2_0) (rowV (encI .u8) (v2 ++ y2_0)))])) (live := [0, 4]) (tv := fun _ => [some (vs 4 0 (v2.length + y2_0.length) (v2.length + y2_0.length)), some (vs 0 o0 n2 n3), some (vi (n2 : Int)), some (vi (((v6 + 1) : Nat) : Int))]) (bl := [some (.ro O0), some (.cells (rowV (encI .u8) (v2 ++ y2_0)) 5)]) (ob := [((IntKind.i64.wrap ((v6 : Int) + (1 : Int))) == (((v6 + 1) : Nat) : Int), true), (dP ((y2_0.length = y2_0.length ∧ takeN (y2_0.length * 1) (List.drop 0 (rowV (encI .u8) y2_0)) = some (rowV (encI .u8) y2_0) ∧ allB cell1 (rowV (encI .u8) y2_0) = true) ∧ 0 < y2_0.length ∧ y2_0.length ≤ 100000 ∧ v2.length < v2.length + y2_0.length ∧ v2.length ≤ 100000 ∧ v2.length * 1 ≤ (List.length (rowV (encI .u8) v2)) ∧ List.take (v2.length * 1) (rowV (encI .u8) v2) ++ (rowV (encI .u8) y2_0) = (rowV (encI .u8) (v2 ++ y2_0))), true), (dP (instr_EncodeP1 #[Value.agg #[vi (L1.getD v6 R_iiii.z).a0, vi (L1.getD v6 R_iiii.z).a1, vi (L1.getD v6 R_iiii.z).a2, vi (L1.getD v6 R_iiii.z).a3]] ((L1.getD v6 R_iiii.z).a0) ((L1.getD v6 R_iiii.z).a1) ((L1.getD v6 R_iiii.z).a2) ((L1.getD v6 R_iiii.z).a3)  y2_0  3), true), (sameR (roRow O0 (o0 + (v6 * 4)) 4) [.i (L1.getD v6 R_iiii.z).a0, .i (L1.getD v6 R_iiii.z).a1, .i (L1.getD v6 R_iiii.z).a2, .i (L1.getD v6 R_iiii.z).a3], true), (Nat.blt v6 n2, true), ((v6 : Int) == Int.ofNat v6, true), ((decide ((v6 : Int) < (n2 : Int))), true)]) rfl (show 1 ∈ rids (prog_EncodeK 1) from by decide +kernel) (fun gv => by kernel_rfl) (obs_cons (beq_iff_eq.2 ((wrap_i64 ltA).trans (by first | rfl | omega))) <| obs_cons (dP_of ⟨⟨rfl, (src_row (E := (encI .u8)) (L := y2_0) (a := 0) (n := y2_0.length) (by omega) (by show _ = _ * 1; omega) (show _ = _ * 1 from rfl) (by rw [List.drop_zero, List.take_of_length_le (by omega)]))⟩, by omega, by omega, ltA, by omega, (rowV_dst (E := (encI .u8)) (L := v2) (M := y2_0) (n := v2.length) (show _ = _ * 1 from rfl) (by omega) (R := (v2 ++ y2_0)) (by rw [List.take_of_length_le (by omega)]))⟩) <| obs_cons (dP_of (instr_EncodeC1 #[Value.agg #[vi (L1.getD v6 R_iiii.z).a0, vi (L1.getD v6 R_iiii.z).a1, vi (L1.getD v6 R_iiii.z).a2, vi (L1.getD v6 R_iiii.z).a3]] ((L1.getD v6 R_iiii.z).a0) ((L1.getD v6 R_iiii.z).a1) ((L1.getD v6 R_iiii.z).a2) ((L1.getD v6 R_iiii.z).a3)  y2_0 N c2  3 rfl (by decide) (by decide))) <| obs_cons ((show (o0 + v6 * 4 + 0) = (o0 + (v6 * 4)) from by omega) ▸ F0 v6 (by omega) 0 4 (show 0 + 4 ≤ 4 from by decide)) <| oB <| oI <| oY obs_nil) rfl (by decide) (by rfl) (fun _ => ⟨⟨Eq.trans (show (vs 1 0 (v2 ++ y2_0).length (v2 ++ y2_0).length : Value) = vs 1 0 (v2.length + y2_0.length) (v2.length + y2_0.length) from (slice_eq rfl eqA eqA)) (by rfl), by rfl⟩, ⟨rr, ⟨rr, ⟨rr, trivial⟩⟩⟩⟩) ⟨rfl, ⟨(same_row (E := (encI .u8)) (α := Int) _ (v2 ++ y2_0) _), trivial⟩⟩
       ·
        exact Mach.ok_none
      ·
       exact Mach.ok_none
     ·
      exact Mach.ok_none
  ·
   exact Mach.ok_none
 ·
  refine Mach.ok_bind (fun z1 c1 => ?_)
  cases z1 with
  | r0 y1_0 =>
   refine Mach.ok_ite (fun g2 => ?_) (fun g2 => ?_)
   ·
    exact Mach.ok_fin (M := prog_EncodeM o0 L1 n2 n3 O0 N) (cd := 1000000) (cm := 0) (r := (.r1 ((v2 ++ ([y1_0] : List Int))) : prog_EncodeR)) (fu := 4000) (orc := (orcw [(0, false)] [] [] [] [(0, (prog_sumT0 (v2) (v2.length) (v2.length)  y1_0 1 2)), (1, .ap 1 [Value.int .u8 y1_0] (rowV (encI .u8) (v2 ++ ([y1_0] : List Int))))])) (live := [0, 3]) (u := Value.tuple #[vs 3 0 (v2.length + 1) (v2.length + 1), vq]) (bl := [some (.ro O0), some (.cells (rowV (encI .u8) (v2 ++ ([y1_0] : List Int))) 5)]) (ob := [(dP ((1 = 1 ∧ takeN (1 * 1) (List.drop 0 [Value.int .u8 y1_0]) = some [Value.int .u8 y1_0] ∧ allB cell1 [Value.int .u8 y1_0] = true) ∧ 0 < 1 ∧ 1 ≤ 100000 ∧ v2.length < v2.length + 1 ∧ v2.length ≤ 100000 ∧ v2.length * 1 ≤ (List.length (rowV (encI .u8) v2)) ∧ List.take (v2.length * 1) (rowV (encI .u8) v2) ++ [Value.int .u8 y1_0] = (rowV (encI .u8) (v2 ++ ([y1_0] : List Int)))), true), (dP (prog_sumP0 #[vs 1 0 v2.length v2.length] (v2) (v2.length) (v2.length)  y1_0 1 2), true), (dS (rowV (encI .u8) v2), true), ((decide ((v6 : Int) < (n2 : Int))), false)]) (fun gv => by kernel_rfl) (obs_cons (dP_of ⟨⟨rfl, ⟨rfl, rfl⟩⟩, by omega, by omega, ltA, by omega, (rowV_dst (E := (encI .u8)) (L := v2) (M := ([y1_0] : List Int)) (n := v2.length) (show _ = _ * 1 from rfl) (by omega) (R := (v2 ++ ([y1_0] : List Int))) (by rw [List.take_of_length_le (by omega)]))⟩) <| obs_cons (dP_of (prog_sumC0 #[vs 1 0 v2.length v2.length] (v2) (v2.length) (v2.length)  y1_0 N c1 1 2 rfl (by decide) (by decide))) <| oR <| oN obs_nil) rfl (by decide) (by rfl) ⟨Eq.trans (show (Value.tuple #[vs 1 0 (v2 ++ ([y1_0] : List Int)).length (v2 ++ ([y1_0] : List Int)).length, vq] : Value) = Value.tuple #[vs 1 0 (v2.length + 1) (v2.length + 1), vq] from (tuple_eq (cons_eq (slice_eq rfl eqA eqA) (cons_eq rfl rfl)))) (by rfl), by rfl⟩ ⟨rfl, ⟨(same_row (E := (encI .u8)) (α := Int) _ (v2 ++ ([y1_0] : List Int)) _), trivial⟩⟩
   ·
    exact Mach.ok_none

theorem prog_Encode_en (o0 : Nat) (L1 : List R_iiii) (n2 n3 : Nat) (O0 : Obj) (F0 : RO_iiii O0 o0 L1) (N : Nat) : (prog_EncodeM o0 L1 n2 n3 O0 N).Enter Try.prog ext_Pk #[vs 0 o0 n2 n3] (prog_EncodeIn L1 n2 n3 N) := by
 unfold prog_EncodeIn
 refine Mach.en_ite (fun g0 => ?_) (fun g0 => ?_)
 ·
  exact Mach.en_fin (M := prog_EncodeM o0 L1 n2 n3 O0 N) (cd := 1000000) (cm := 0) (r := (.r0 ((3 : Int)) : prog_EncodeR)) (fu := 4000) (orc := (orcw [(0, true)] [] [] [] [])) (live := [0]) (u := Value.tuple #[vn, vi (3 : Int)]) (bl := [some (.ro O0)]) (ob := [((decide ((n2 : Int) > (512 : Int))), true)]) (by kernel_rfl) (oY obs_nil) rfl (by decide) (by rfl) rr ⟨rfl, trivial⟩
 ·
  exact Mach.en_head (bK := prog_EncodeC 1) (M := prog_EncodeM o0 L1 n2 n3 O0 N) (cd := 1000000) (cm := 0) (y := (.h1m0 (([(71 : Int), (78 : Int), (84 : Int), (1 : Int), ((n2 : Int) / (256 : Int)), (IntKind.u8.wrap (n2 : Int))] : List Int)) (0) : prog_EncodeX)) (fu := 4000) (orc := (orcw [(0, false)] [(0, ((n2 : Int) / (256 : Int))), (1, ((n2 : Int) / (256 : Int)))] [] [] [])) (live := [0, 3]) (tv := [some (vs 3 0 6 6), some (vs 0 o0 n2 n3), some (vi (n2 : Int)), some (vq)]) (bl := [some (.ro O0), some (.cells [Value.int .u8 (71 : Int), Value.int .u8 (78 : Int), Value.int .u8 (84 : Int), Value.int .u8 (1 : Int), Value.int .u8 ((n2 : Int) / (256 : Int)), Value.int .u8 (IntKind.u8.wrap (n2 : Int))] 5)]) (ob := [((IntKind.u8.wrap ((n2 : Int) / (256 : Int))) == ((n2 : Int) / (256 : Int)), true), ((Int.fdiv (n2 : Int) (2 ^ 8 : Int)) == ((n2 : Int) / (256 : Int)), true), ((decide ((n2 : Int) > (512 : Int))), false)]) rfl rfl (show rids (prog_EncodeC 1).2 = [] from rfl) (by kernel_rfl) (obs_cons (beq_iff_eq.2 (wrap_u8 ltA)) <| obs_cons (beq_iff_eq.2 (Int.fdiv_eq_ediv_of_nonneg _ (by decide))) <| oN obs_nil) rfl (by decide) (by rfl) ⟨⟨Eq.trans (show (vs 1 0 ([(71 : Int), (78 : Int), (84 : Int), (1 : Int), ((n2 : Int) / (256 : Int)), (IntKind.u8.wrap (n2 : Int))] : List Int).length ([(71 : Int), (78 : Int), (84 : Int), (1 : Int), ((n2 : Int) / (256 : Int)), (IntKind.u8.wrap (n2 : Int))] : List Int).length : Value) = vs 1 0 6 6 from (slice_eq rfl eqA eqA)) (by rfl), by rfl⟩, ⟨rr, ⟨rr, ⟨⟨Eq.trans (show (vi ((0 : Nat) : Int) : Value) = vq from (congrArg (Value.int .i64) (by first | rfl | omega))) (by rfl), by rfl⟩, trivial⟩⟩⟩⟩ ⟨rfl, ⟨(same_cells (E := (encI .u8)) _ (L := ([(71 : Int), (78 : Int), (84 : Int), (1 : Int), ((n2 : Int) / (256 : Int)), (IntKind.u8.wrap (n2 : Int))] : List Int)) _ (show ([Value.int .u8 (71 : Int), Value.int .u8 (78 : Int), Value.int .u8 (84 : Int), Value.int .u8 (1 : Int), Value.int .u8 ((n2 : Int) / (256 : Int)), Value.int .u8 (IntKind.u8.wrap (n2 : Int))] : List Value) = rowV (encI .u8) ([(71 : Int), (78 : Int), (84 : Int), (1 : Int), ((n2 : Int) / (256 : Int)), (IntKind.u8.wrap (n2 : Int))] : List Int) from rfl)), trivial⟩⟩

theorem prog_Encode_spec (o0 : Nat) (L1 : List R_iiii) (n2 n3 : Nat) (O0 : Obj) (F0 : RO_iiii O0 o0 L1) (N : Nat) (r : prog_EncodeR) (h : prog_Encode L1 n2 n3 N = some r) : LSpec Try.prog 7 #[vs 0 o0 n2 n3] [.ro O0] (prog_EncodeV o0 L1 n2 n3 O0 r) (prog_EncodePo o0 L1 n2 n3 O0 r) :=
 Mach.spec fit_Pk (prog_EncodeM o0 L1 n2 n3 O0 N) Try.func7 (by kernel_rfl) (by kernel_rfl) (fun x => by cases x <;> exact le_far _ rfl) (fun r => by cases r <;> exact le_far _ rfl) (fun x => by
  cases x with
  | h1m0 _ _ => exact fun _ => (show ¬ (1 ∈ rids (prog_EncodeC 1).2) from by decide +kernel)
  ) (fun x => (show (prog_EncodeM o0 L1 n2 n3 O0 N).Ok Try.prog ext_Pk x (prog_EncodeStep L1 n2 n3 N x) from by
  cases x with
  | h1m0 v2 v6 => exact prog_Encode_ok1_0 o0 L1 n2 n3 O0 F0 v2 v6 N
  )) (prog_Encode_en o0 L1 n2 n3 O0 F0 N) (n := N) h

noncomputable def prog_EncodeT0 (o0 : Nat) (L1 : List R_iiii) (n2 n3 : Nat) (O0 : Obj) (w2 : Int) (k0 n : Nat) : Told := .call [(k0, .ro O0)] (Value.tuple #[vn, vi w2]) [] 0
def prog_EncodeP0 (A : Array Value) (o0 : Nat) (L1 : List R_iiii) (n2 n3 : Nat) (O0 : Obj) (w2 : Int) (k0 n : Nat) : Prop := CallSpec Try.prog 7 A [(k0, .ro O0)] (Value.tuple #[vn, vi w2]) [] n 0

theorem prog_EncodeC0 (A : Array Value) (o0 : Nat) (L1 : List R_iiii) (n2 n3 : Nat) (O0 : Obj) (F0 : RO_iiii O0 o0 L1) (w2 : Int) (N : Nat) (h : prog_Encode L1 n2 n3 N = some (.r0 w2)) (k0 n : Nat) (hA : A = #[vs k0 o0 n2 n3]) (hnd : ([k0] : List Nat).Nodup) (hlt : ∀ k ∈ ([k0] : List Nat), k < n) : prog_EncodeP0 A o0 L1 n2 n3 O0 w2 k0 n :=
 cs_args hA (LSpec.callL (show LSpec Try.prog 7 #[vs 0 o0 n2 n3] [.ro O0] (Value.tuple #[vn, vi w2]) [some (.ro O0)] from prog_Encode_spec o0 L1 n2 n3 O0 F0 N _ h) [k0] n [] rfl hnd hlt (show 1 ≤ 1 from by decide) (show ∀ j ∈ ([] : List Nat), j < 1 from by decide) (by rfl) ⟨rfl, trivial⟩ (by rfl) ⟨rfl, trivial⟩ ⟨.inr rfl, trivial⟩ rfl rfl rfl (cons_eq (pair_eq rfl rfl) rfl) rfl)

noncomputable def prog_EncodeT1 (o0 : Nat) (L1 : List R_iiii) (n2 n3 : Nat) (O0 : Obj) (w2 : List Int) (k0 n : Nat) : Told := .call [(k0, .ro O0)] (Value.tuple #[vs n 0 w2.length w2.length, vq]) [(n, some (.cells (rowV (encI .u8) w2) 5))] 1
def prog_EncodeP1 (A : Array Value) (o0 : Nat) (L1 : List R_iiii) (n2 n3 : Nat) (O0 : Obj) (w2 : List Int) (k0 n : Nat) : Prop := CallSpec Try.prog 7 A [(k0, .ro O0)] (Value.tuple #[vs n 0 w2.length w2.length, vq]) [(n, some (.cells (rowV (encI .u8) w2) 5))] n 1

theorem prog_EncodeC1 (A : Array Value) (o0 : Nat) (L1 : List R_iiii) (n2 n3 : Nat) (O0 : Obj) (F0 : RO_iiii O0 o0 L1) (w2 : List Int) (N : Nat) (h : prog_Encode L1 n2 n3 N = some (.r1 w2)) (k0 n : Nat) (hA : A = #[vs k0 o0 n2 n3]) (hnd : ([k0] : List Nat).Nodup) (hlt : ∀ k ∈ ([k0] : List Nat), k < n) : prog_EncodeP1 A o0 L1 n2 n3 O0 w2 k0 n :=
 cs_args hA (LSpec.callL (show LSpec Try.prog 7 #[vs 0 o0 n2 n3] [.ro O0] (Value.tuple #[vs 1 0 w2.length w2.length, vq]) [some (.ro O0), some (.cells (rowV (encI .u8) w2) 5)] from prog_Encode_spec o0 L1 n2 n3 O0 F0 N _ h) [k0] n [1] rfl hnd hlt (show 1 ≤ 2 from by decide) (show ∀ j ∈ ([1] : List Nat), j < 2 from by decide) (by rfl) ⟨rfl, trivial⟩ (by rfl) ⟨rfl, ⟨(under_row _ _ _), trivial⟩⟩ ⟨.inr rfl, ⟨(by decide), trivial⟩⟩ rfl rfl rfl (cons_eq (pair_eq rfl rfl) rfl) (cons_eq (pair_eq rfl (some_eq (renO_row _ _ _))) rfl))

noncomputable def prog_DecodeV  : prog_DecodeR → Value
 | .r0 => Value.tuple #[vn, vi (6 : Int)]
noncomputable def prog_DecodePo  : prog_DecodeR → List (Option AObj)
 | .r0 => []

theorem prog_Decode_fx  (N : Nat) : Fx Try.prog ext_Pk Try.f8 [] #[vn] (prog_DecodeV ) (prog_DecodePo ) (prog_Decode  N) := by
 unfold prog_Decode
 exact fx_fin (r := (.r0 : prog_DecodeR)) (fu := 4000) (orc := (orcw [] [] [] [] [])) (live := []) (u := Value.tuple #[vn, vi (6 : Int)]) (bl := []) (ob := []) (by kernel_rfl) obs_nil rfl (by decide) (by rfl) rr trivial

theorem prog_Decode_spec  (N : Nat) (r : prog_DecodeR) (h : prog_Decode  N = some r) : LSpec Try.prog 8 #[vn] [] (prog_DecodeV  r) (prog_DecodePo  r) :=
 fx_spec fit_Pk Try.func8 (by kernel_rfl) (by kernel_rfl) (fun r => by cases r <;> exact le_far _ rfl) (prog_Decode_fx  N) h

noncomputable def prog_DecodeT0  (n : Nat) : Told := .call [] (Value.tuple #[vn, vi (6 : Int)]) [] 0
def prog_DecodeP0 (A : Array Value)  (n : Nat) : Prop := CallSpec Try.prog 8 A [] (Value.tuple #[vn, vi (6 : Int)]) [] n 0

theorem prog_DecodeC0 (A : Array Value)  (N : Nat) (h : prog_Decode  N = some (.r0)) (n : Nat) (hA : A = #[vn]) (hnd : ([] : List Nat).Nodup) (hlt : ∀ k ∈ ([] : List Nat), k < n) : prog_DecodeP0 A   n :=
 cs_args hA (LSpec.callL (show LSpec Try.prog 8 #[vn] [] (Value.tuple #[vn, vi (6 : Int)]) [] from prog_Decode_spec  N _ h) [] n [] rfl hnd hlt (show 0 ≤ 0 from by decide) (show ∀ j ∈ ([] : List Nat), j < 0 from by decide) (by rfl) trivial (by rfl) trivial trivial rfl rfl rfl rfl rfl)

noncomputable def instr_joinV (L0 : List Int) (n1 n2 n3 : Nat) : instr_joinR → Value
 | .r0 w1 => vi w1
noncomputable def instr_joinPo (L0 : List Int) (n1 n2 n3 : Nat) : instr_joinR → List (Option AObj)
 | .r0 w1 => [some (.cells (rowV (encI .u8) L0) 5)]

def instr_joinHd : instr_joinX → Nat
 | .h1m0 v1 v6 => 1
noncomputable def instr_joinL (L0 : List Int) (n1 n2 n3 : Nat) : instr_joinX → List (Nat × Value)
 | .h1m0 v1 v6 => [(3, Value.int .u64 v1), (6, vs 0 n1 n2 n3), (7, vi (n2 : Int)), (8, vi (v6 : Int))]
noncomputable def instr_joinH (L0 : List Int) (n1 n2 n3 : Nat) : instr_joinX → List (Option AObj)
 | .h1m0 v1 v6 => [some (.cells (rowV (encI .u8) L0) 5)]

noncomputable def instr_joinC : Nat → Code × List Kont
 | 1 => headOf [1, 1, 0, 1, 3] (bodyC Try.f26) []
 | _ => (.skip, [])
def instr_joinIL : Nat → Bool
 | 1 => true
 | _ => true
noncomputable def instr_joinK (i : Nat) : List Kont := match instr_joinIL i with | true => .rnd i :: (instr_joinC i).2 | false => (instr_joinC i).2

noncomputable def instr_joinM (L0 : List Int) (n1 n2 n3 N : Nat) : Mach := ⟨Try.f26, [.cells (rowV (encI .u8) L0) 5], instr_joinX, instr_joinR, instr_joinStep L0 n1 n2 n3 N, instr_joinHd, instr_joinC, instr_joinIL, instr_joinL L0 n1 n2 n3, instr_joinH L0 n1 n2 n3, instr_joinV L0 n1 n2 n3, instr_joinPo L0 n1 n2 n3⟩

theorem instr_join_ok1_0 (L0 : List Int) (n1 n2 n3 : Nat) (v1 : Int) (v6 N : Nat) : (instr_joinM L0 n1 n2 n3 N).Ok Try.prog ext_Pk (.h1m0 v1 v6 : instr_joinX) (instr_joinStep L0 n1 n2 n3 N (.h1m0 v1 v6 : instr_joinX)) := by
 show (instr_joinM L0 n1 n2 n3 N).Ok Try.prog ext_Pk (.h1m0 v1 v6 : instr_joinX) (instr_join_h1m0 L0 n1 n2 n3 N v1 v6)
 unfold instr_join_h1m0
 refine Mach.ok_ite (fun g0 => ?_) (fun g0 => ?_)
 ·
  refine Mach.ok_ite (fun g1 => ?_) (fun g1 => ?_)
  ·
   refine Mach.ok_ite (fun g2 => ?_) (fun g2 => ?_)
   ·
    refine Mach.ok_ite (fun g3 => ?_) (fun g3 => ?_)
    ·
     refine Mach.ok_ite (fun g4 => ?_) (fun g4 => ?_)
     ·
      exact Mach.ok_next (M := instr_joinM L0 n1 n2 n3 N) (cd := 1000000) (cm := 0) (y := (.h1m0 ((IntKind.u64.wrap (((BitVec.ofInt IntKind.u64.bits (IntKind.u64.wrap (v1 * (2 ^ 8 : Int))) ||| BitVec.ofInt IntKind.u64.bits (L0.getD (v6 + n1) 0)).toNat : Nat) : Int))) ((v6 + 1)) : instr_joinX)) (fu := 4000) (orc := (orcw [(0, true)] [(1, (L0.getD (v6 + n1) 0)), (3, (((v6 + 1) : Nat) : Int))] [(0, v6)] [(0, [.k .u8 (L0.getD (v6 + n1) 0)])] [])) (live := [0]) (tv := fun _ => [some (Value.int .u64 (IntKind.u64.wrap (((BitVec.ofInt IntKind.u64.bits (IntKind.u64.wrap (v1 * (2 ^ 8 : Int))) ||| BitVec.ofInt IntKind.u64.bits (L0.getD (v6 + n1) 0)).toNat : Nat) : Int))), some (vs 0 n1 n2 n3), some (vi (n2 : Int)), some (vi (((v6 + 1) : Nat) : Int))]) (bl := [some (.cells (rowV (encI .u8) L0) 5)]) (ob := [((IntKind.i64.wrap ((v6 : Int) + (1 : Int))) == (((v6 + 1) : Nat) : Int), true), ((IntKind.u64.wrap (L0.getD (v6 + n1) 0)) == (L0.getD (v6 + n1) 0), true), (sameR (takeN 1 (List.drop (n1 + (v6 * 1)) (rowV (encI .u8) L0))) [.k .u8 (L0.getD (v6 + n1) 0)], true), (Nat.blt v6 n2, true), ((v6 : Int) == Int.ofNat v6, true), ((decide ((v6 : Int) < (n2 : Int))), true)]) rfl (show 1 ∈ rids (instr_joinK 1) from by decide +kernel) (fun gv => by kernel_rfl) (obs_cons (beq_iff_eq.2 ((wrap_i64 ltA).trans (by first | rfl | omega))) <| obs_cons (beq_iff_eq.2 (wrap_u64 ltA)) <| obs_cons (rowV_load (E := (encI .u8)) (L := L0) (i := (v6 + n1)) (q := 0) (by omega) (show (n1 + (v6 * 1)) = (v6 + n1) * 1 + 0 from by omega) (show 0 + 1 ≤ 1 from by decide) rfl rfl) <| oB <| oI <| oY obs_nil) rfl (by decide) (by rfl) (fun _ => ⟨rr, ⟨rr, ⟨rr, ⟨rr, trivial⟩⟩⟩⟩) ⟨(same_row (E := (encI .u8)) (α := Int) _ L0 _), trivial⟩
     ·
      exact Mach.ok_none
    ·
     exact Mach.ok_none
   ·
    exact Mach.ok_none
  ·
   exact Mach.ok_none
 ·
  exact Mach.ok_fin (M := instr_joinM L0 n1 n2 n3 N) (cd := 1000000) (cm := 0) (r := (.r0 ((IntKind.i64.wrap v1)) : instr_joinR)) (fu := 4000) (orc := (orcw [(0, false)] [] [] [] [])) (live := [0]) (u := vi (IntKind.i64.wrap v1)) (bl := [some (.cells (rowV (encI .u8) L0) 5)]) (ob := [((decide ((v6 : Int) < (n2 : Int))), false)]) (fun gv => by kernel_rfl) (oN obs_nil) rfl (by decide) (by rfl) rr ⟨(same_row (E := (encI .u8)) (α := Int) _ L0 _), trivial⟩

theorem instr_join_en (L0 : List Int) (n1 n2 n3 N : Nat) : (instr_joinM L0 n1 n2 n3 N).Enter Try.prog ext_Pk #[vs 0 n1 n2 n3] (instr_joinIn L0 n1 n2 n3 N) := by
 unfold instr_joinIn
 exact Mach.en_head (bK := instr_joinC 1) (M := instr_joinM L0 n1 n2 n3 N) (cd := 1000000) (cm := 0) (y := (.h1m0 ((0 : Int)) (0) : instr_joinX)) (fu := 4000) (orc := (orcw [] [] [] [] [])) (live := [0]) (tv := [some (Value.int .u64 (0 : Int)), some (vs 0 n1 n2 n3), some (vi (n2 : Int)), some (vq)]) (bl := [some (.cells (rowV (encI .u8) L0) 5)]) (ob := []) rfl rfl (show rids (instr_joinC 1).2 = [] from rfl) (by kernel_rfl) obs_nil rfl (by decide) (by rfl) ⟨rr, ⟨rr, ⟨rr, ⟨⟨Eq.trans (show (vi ((0 : Nat) : Int) : Value) = vq from (congrArg (Value.int .i64) (by first | rfl | omega))) (by rfl), by rfl⟩, trivial⟩⟩⟩⟩ ⟨(same_row (E := (encI .u8)) (α := Int) _ L0 _), trivial⟩

theorem instr_join_spec (L0 : List Int) (n1 n2 n3 N : Nat) (r : instr_joinR) (h : instr_join L0 n1 n2 n3 N = some r) : LSpec Try.prog 26 #[vs 0 n1 n2 n3] [.cells (rowV (encI .u8) L0) 5] (instr_joinV L0 n1 n2 n3 r) (instr_joinPo L0 n1 n2 n3 r) :=
 Mach.spec fit_Pk (instr_joinM L0 n1 n2 n3 N) Try.func26 (by kernel_rfl) (by kernel_rfl) (fun x => by cases x <;> exact le_far _ rfl) (fun r => by cases r <;> exact le_far _ rfl) (fun x => by
  cases x with
  | h1m0 _ _ => exact fun _ => (show ¬ (1 ∈ rids (instr_joinC 1).2) from by decide +kernel)
  ) (fun x => (show (instr_joinM L0 n1 n2 n3 N).Ok Try.prog ext_Pk x (instr_joinStep L0 n1 n2 n3 N x) from by
  cases x with
  | h1m0 v1 v6 => exact instr_join_ok1_0 L0 n1 n2 n3 v1 v6 N
  )) (instr_join_en L0 n1 n2 n3 N) (n := N) h

noncomputable def instr_joinT0 (L0 : List Int) (n1 n2 n3 : Nat) (w1 : Int) (k0 n : Nat) : Told := .call [(k0, .cells (rowV (encI .u8) L0) 5)] (vi w1) [] 0
def instr_joinP0 (A : Array Value) (L0 : List Int) (n1 n2 n3 : Nat) (w1 : Int) (k0 n : Nat) : Prop := CallSpec Try.prog 26 A [(k0, .cells (rowV (encI .u8) L0) 5)] (vi w1) [] n 0

theorem instr_joinC0 (A : Array Value) (L0 : List Int) (n1 n2 n3 : Nat) (w1 : Int) (N : Nat) (h : instr_join L0 n1 n2 n3 N = some (.r0 w1)) (k0 n : Nat) (hA : A = #[vs k0 n1 n2 n3]) (hnd : ([k0] : List Nat).Nodup) (hlt : ∀ k ∈ ([k0] : List Nat), k < n) : instr_joinP0 A L0 n1 n2 n3 w1 k0 n :=
 cs_args hA (LSpec.callL (show LSpec Try.prog 26 #[vs 0 n1 n2 n3] [.cells (rowV (encI .u8) L0) 5] (vi w1) [some (.cells (rowV (encI .u8) L0) 5)] from instr_join_spec L0 n1 n2 n3 N _ h) [k0] n [] rfl hnd hlt (show 1 ≤ 1 from by decide) (show ∀ j ∈ ([] : List Nat), j < 1 from by decide) (by rfl) ⟨(under_row _ _ _), trivial⟩ (by rfl) ⟨(under_row _ _ _), trivial⟩ ⟨.inr rfl, trivial⟩ rfl rfl rfl (cons_eq (pair_eq rfl (renO_row _ _ _)) rfl) rfl)

noncomputable def instr_DecodeV (L0 : List Int) (n1 n2 n3 : Nat) : instr_DecodeR → Value
 | .r0 w5 => Value.tuple #[Value.agg #[vq, vq, vq, vq], vn, vi w5]
 | .r1 w2 w3 w4 w5 => Value.tuple #[Value.agg #[vi (L0.getD n1 0), vi w2, vi w3, vi w4], vs 1 0 w5.length w5.length, vq]
noncomputable def instr_DecodePo (L0 : List Int) (n1 n2 n3 : Nat) : instr_DecodeR → List (Option AObj)
 | .r0 w5 => [some (.cells (rowV (encI .u8) L0) 5)]
 | .r1 w2 w3 w4 w5 => [some (.cells (rowV (encI .u8) L0) 5), some (.cells (rowV (encI .u8) w5) 5)]

def instr_DecodeHd : instr_DecodeX → Nat
 | .h1m0 v7 v8 v9 => 1
 | .h1m1 v4 v5 v6 v7 v8 v9 v14 => 1
 | .h1m2 v4 v5 v6 v7 v8 v9 v14 v15 => 1
 | .h1m3 v4 v5 v6 v7 v8 v9 v14 v15 v16 => 1
noncomputable def instr_DecodeL (L0 : List Int) (n1 n2 n3 : Nat) : instr_DecodeX → List (Nat × Value)
 | .h1m0 v7 v8 v9 => [(0, vs 0 n1 n2 n3), (2, vp 1 0), (6, vp 2 0), (7, vs 0 (n1 + 1) (n2 - 1) (n3 - 1)), (28, Value.agg #[vi v7, vi v8, vi v9]), (29, vq)]
 | .h1m1 v4 v5 v6 v7 v8 v9 v14 => [(0, vs 0 n1 n2 n3), (2, vp 1 0), (6, vp 2 0), (7, vs 0 v4 v5 v6), (28, Value.agg #[vi v7, vi v8, vi v9]), (29, vi (1 : Int))]
 | .h1m2 v4 v5 v6 v7 v8 v9 v14 v15 => [(0, vs 0 n1 n2 n3), (2, vp 1 0), (6, vp 2 0), (7, vs 0 v4 v5 v6), (28, Value.agg #[vi v7, vi v8, vi v9]), (29, vi (2 : Int))]
 | .h1m3 v4 v5 v6 v7 v8 v9 v14 v15 v16 => [(0, vs 0 n1 n2 n3), (2, vp 1 0), (6, vp 2 0), (7, vs 0 v4 v5 v6), (28, Value.agg #[vi v7, vi v8, vi v9]), (29, vi (3 : Int))]
noncomputable def instr_DecodeH (L0 : List Int) (n1 n2 n3 : Nat) : instr_DecodeX → List (Option AObj)
 | .h1m0 v7 v8 v9 => [some (.cells (rowV (encI .u8) L0) 5), some (.cells [vq, vq, vq, vq] 38), some (.cells [vq, vq, vq] 51)]
 | .h1m1 v4 v5 v6 v7 v8 v9 v14 => [some (.cells (rowV (encI .u8) L0) 5), some (.cells [vq, vq, vq, vq] 38), some (.cells [vi v14, vq, vq] 51)]
 | .h1m2 v4 v5 v6 v7 v8 v9 v14 v15 => [some (.cells (rowV (encI .u8) L0) 5), some (.cells [vq, vq, vq, vq] 38), some (.cells [vi v14, vi v15, vq] 51)]
 | .h1m3 v4 v5 v6 v7 v8 v9 v14 v15 v16 => [some (.cells (rowV (encI .u8) L0) 5), some (.cells [vq, vq, vq, vq] 38), some (.cells [vi v14, vi v15, vi v16] 51)]

noncomputable def instr_DecodeC : Nat → Code × List Kont
 | 1 => headOf [1, 1, 1, 1, 1, 1, 0, 1, 3] (bodyC Try.f18) []
 | _ => (.skip, [])
def instr_DecodeIL : Nat → Bool
 | 1 => true
 | _ => true
noncomputable def instr_DecodeK (i : Nat) : List Kont := match instr_DecodeIL i with | true => .rnd i :: (instr_DecodeC i).2 | false => (instr_DecodeC i).2

noncomputable def instr_DecodeM (L0 : List Int) (n1 n2 n3 N : Nat) : Mach := ⟨Try.f18, [.cells (rowV (encI .u8) L0) 5], instr_DecodeX, instr_DecodeR, instr_DecodeStep L0 n1 n2 n3 N, instr_DecodeHd, instr_DecodeC, instr_DecodeIL, instr_DecodeL L0 n1 n2 n3, instr_DecodeH L0 n1 n2 n3, instr_DecodeV L0 n1 n2 n3, instr_DecodePo L0 n1 n2 n3⟩

theorem instr_Decode_ok1_0 (L0 : List Int) (n1 n2 n3 : Nat) (v7 v8 v9 : Int) (N : Nat) : (instr_DecodeM L0 n1 n2 n3 N).Ok Try.prog ext_Pk (.h1m0 v7 v8 v9 : instr_DecodeX) (instr_DecodeStep L0 n1 n2 n3 N (.h1m0 v7 v8 v9 : instr_DecodeX)) := by
 show (instr_DecodeM L0 n1 n2 n3 N).Ok Try.prog ext_Pk (.h1m0 v7 v8 v9 : instr_DecodeX) (instr_Decode_h1m0 L0 n1 n2 n3 N v7 v8 v9)
 unfold instr_Decode_h1m0
 refine Mach.ok_bind (fun z0 c0 => ?_)
 cases z0 with
 | r0 y0_0 =>
  refine Mach.ok_ite (fun g1 => ?_) (fun g1 => ?_)
  ·
   exact Mach.ok_fin (M := instr_DecodeM L0 n1 n2 n3 N) (cd := 1000000) (cm := 0) (r := (.r0 ((6 : Int)) : instr_DecodeR)) (fu := 4000) (orc := (orcw [(1, true)] [] [] [] [(0, (instr_shape_widthT0 (v7)  y0_0  3))])) (live := [0]) (u := Value.tuple #[Value.agg #[vq, vq, vq, vq], vn, vi (6 : Int)]) (bl := [some (.cells (rowV (encI .u8) L0) 5)]) (ob := [((decide ((((n2 - 1) : Nat) : Int) < y0_0)), true), (dP (instr_shape_widthP0 #[vi v7] (v7)  y0_0  3), true)]) (fun gv => by kernel_rfl) (oY <| obs_cons (dP_of (instr_shape_widthC0 #[vi v7] (v7)  y0_0 N c0  3 rfl (by decide) (by decide))) obs_nil) rfl (by decide) (by rfl) rr ⟨(same_row (E := (encI .u8)) (α := Int) _ L0 _), trivial⟩
  ·
   refine Mach.ok_bind (fun z2 c2 => ?_)
   cases z2 with
   | r0 y2_0 =>
    refine Mach.ok_ite (fun g3 => ?_) (fun g3 => ?_)
    ·
     refine Mach.ok_ite (fun g4 => ?_) (fun g4 => ?_)
     ·
      refine Mach.ok_bind (fun z5 c5 => ?_)
      cases z5 with
      | r0 y5_0 =>
       refine Mach.ok_bind (fun z6 c6 => ?_)
       cases z6 with
       | r0 y6_0 =>
        refine Mach.ok_ite (fun g7 => ?_) (fun g7 => ?_)
        ·
         refine Mach.ok_ite (fun g8 => ?_) (fun g8 => ?_)
         ·
          refine Mach.ok_ite (fun g9 => ?_) (fun g9 => ?_)
          ·
           exact Mach.ok_next (M := instr_DecodeM L0 n1 n2 n3 N) (cd := 1000000) (cm := 0) (y := (.h1m1 (((y6_0).toNat + (n1 + 1))) (((n2 - 1) - (y6_0).toNat)) (((n3 - 1) - (y6_0).toNat)) (v7) (v8) (v9) (y5_0) : instr_DecodeX)) (fu := 4000) (orc := (orcw [(1, false)] [] [] [] [(0, (instr_shape_widthT0 (v7)  y0_0  3)), (1, (instr_shape_widthT0 (v7)  y2_0  3)), (2, .sl 0 (y2_0).toNat), (3, (instr_joinT0 (L0) ((n1 + 1)) (((y2_0).toNat - 0)) (((n3 - 1) - 0))  y5_0 0 3)), (4, (instr_shape_widthT0 (v7)  y6_0  3)), (5, .sl (y6_0).toNat (n2 - 1))])) (live := [0, 1, 2]) (tv := fun _ => [some (vs 0 n1 n2 n3), some (vp 1 0), some (vp 2 0), some (Value.slice (some ⟨0, ((n1 + 1) + ((y6_0).toNat * 1)), none⟩) ((n2 - 1) - (y6_0).toNat) ((n3 - 1) - (y6_0).toNat)), some (Value.agg #[vi v7, vi v8, vi v9]), some (vi (1 : Int))]) (bl := [some (.cells (rowV (encI .u8) L0) 5), some (.cells [vq, vq, vq, vq] 38), some (.cells [vi y5_0, vq, vq] 51)]) (ob := [(dP ((y6_0).toNat ≤ (n2 - 1) ∧ (n2 - 1) ≤ (n3 - 1)), true), (dS (n2 - 1), true), (y6_0 == Int.ofNat (y6_0).toNat, true), (dP (instr_shape_widthP0 #[vi v7] (v7)  y6_0  3), true), (dP (instr_joinP0 #[Value.slice (some ⟨0, ((n1 + 1) + (0 * 1)), none⟩) ((y2_0).toNat - 0) ((n3 - 1) - 0)] (L0) ((n1 + 1)) (((y2_0).toNat - 0)) (((n3 - 1) - 0))  y5_0 0 3), true), (dS (rowV (encI .u8) L0), true), (dP (0 ≤ (y2_0).toNat ∧ (y2_0).toNat ≤ (n3 - 1)), true), (y2_0 == Int.ofNat (y2_0).toNat, true), (dS 0, true), (dP (instr_shape_widthP0 #[vi v7] (v7)  y2_0  3), true), ((decide ((((n2 - 1) : Nat) : Int) < y0_0)), false), (dP (instr_shape_widthP0 #[vi v7] (v7)  y0_0  3), true)]) rfl (show 1 ∈ rids (instr_DecodeK 1) from by decide +kernel) (fun gv => by kernel_rfl) (obs_cons (dP_of ⟨ltA, ltA⟩) <| oR <| oI <| obs_cons (dP_of (instr_shape_widthC0 #[vi v7] (v7)  y6_0 N c6  3 rfl (by decide) (by decide))) <| obs_cons (dP_of (instr_joinC0 #[Value.slice (some ⟨0, ((n1 + 1) + (0 * 1)), none⟩) ((y2_0).toNat - 0) ((n3 - 1) - 0)] (L0) ((n1 + 1)) (((y2_0).toNat - 0)) (((n3 - 1) - 0))  y5_0 N c5 0 3 (array_eq (cons_eq (slice_eq eqA rfl rfl) rfl)) (by decide) (by decide))) <| oR <| obs_cons (dP_of ⟨ltA, ltA⟩) <| oI <| oR <| obs_cons (dP_of (instr_shape_widthC0 #[vi v7] (v7)  y2_0 N c2  3 rfl (by decide) (by decide))) <| oN <| obs_cons (dP_of (instr_shape_widthC0 #[vi v7] (v7)  y0_0 N c0  3 rfl (by decide) (by decide))) obs_nil) rfl (by decide) (by rfl) (fun _ => ⟨rr, ⟨rr, ⟨rr, ⟨⟨Eq.trans (show (Value.slice (some ⟨0, ((y6_0).toNat + (n1 + 1)), none⟩) ((n2 - 1) - (y6_0).toNat) ((n3 - 1) - (y6_0).toNat) : Value) = Value.slice (some ⟨0, ((n1 + 1) + ((y6_0).toNat * 1)), none⟩) ((n2 - 1) - (y6_0).toNat) ((n3 - 1) - (y6_0).toNat) from (slice_eq eqA rfl rfl)) (by rfl), by rfl⟩, ⟨rr, ⟨rr, trivial⟩⟩⟩⟩⟩⟩) ⟨(same_row (E := (encI .u8)) (α := Int) _ L0 _), ⟨⟨rfl, ⟨[], by rfl⟩, by rfl⟩, ⟨⟨rfl, ⟨[], by rfl⟩, by rfl⟩, trivial⟩⟩⟩
          ·
           exact Mach.ok_none
         ·
          exact Mach.ok_none
        ·
         exact Mach.ok_none
     ·
      exact Mach.ok_none
    ·
     exact Mach.ok_none

theorem instr_Decode_ok1_1 (L0 : List Int) (n1 n2 n3 v4 v5 v6 : Nat) (v7 v8 v9 v14 : Int) (N : Nat) : (instr_DecodeM L0 n1 n2 n3 N).Ok Try.prog ext_Pk (.h1m1 v4 v5 v6 v7 v8 v9 v14 : instr_DecodeX) (instr_DecodeStep L0 n1 n2 n3 N (.h1m1 v4 v5 v6 v7 v8 v9 v14 : instr_DecodeX)) := by
 show (instr_DecodeM L0 n1 n2 n3 N).Ok Try.prog ext_Pk (.h1m1 v4 v5 v6 v7 v8 v9 v14 : instr_DecodeX) (instr_Decode_h1m1 L0 n1 n2 n3 N v4 v5 v6 v7 v8 v9 v14)
 unfold instr_Decode_h1m1
 refine Mach.ok_bind (fun z0 c0 => ?_)
 cases z0 with
 | r0 y0_0 =>
  refine Mach.ok_ite (fun g1 => ?_) (fun g1 => ?_)
  ·
   exact Mach.ok_fin (M := instr_DecodeM L0 n1 n2 n3 N) (cd := 1000000) (cm := 0) (r := (.r0 ((6 : Int)) : instr_DecodeR)) (fu := 4000) (orc := (orcw [(1, true)] [] [] [] [(0, (instr_shape_widthT0 (v8)  y0_0  3))])) (live := [0]) (u := Value.tuple #[Value.agg #[vq, vq, vq, vq], vn, vi (6 : Int)]) (bl := [some (.cells (rowV (encI .u8) L0) 5)]) (ob := [((decide ((v5 : Int) < y0_0)), true), (dP (instr_shape_widthP0 #[vi v8] (v8)  y0_0  3), true)]) (fun gv => by kernel_rfl) (oY <| obs_cons (dP_of (instr_shape_widthC0 #[vi v8] (v8)  y0_0 N c0  3 rfl (by decide) (by decide))) obs_nil) rfl (by decide) (by rfl) rr ⟨(same_row (E := (encI .u8)) (α := Int) _ L0 _), trivial⟩
  ·
   refine Mach.ok_bind (fun z2 c2 => ?_)
   cases z2 with
   | r0 y2_0 =>
    refine Mach.ok_ite (fun g3 => ?_) (fun g3 => ?_)
    ·
     refine Mach.ok_ite (fun g4 => ?_) (fun g4 => ?_)
     ·
      refine Mach.ok_bind (fun z5 c5 => ?_)
      cases z5 with
      | r0 y5_0 =>
       refine Mach.ok_bind (fun z6 c6 => ?_)
       cases z6 with
       | r0 y6_0 =>
        refine Mach.ok_ite (fun g7 => ?_) (fun g7 => ?_)
        ·
         refine Mach.ok_ite (fun g8 => ?_) (fun g8 => ?_)
         ·
          refine Mach.ok_ite (fun g9 => ?_) (fun g9 => ?_)
          ·
           exact Mach.ok_next (M := instr_DecodeM L0 n1 n2 n3 N) (cd := 1000000) (cm := 0) (y := (.h1m2 (((y6_0).toNat + v4)) ((v5 - (y6_0).toNat)) ((v6 - (y6_0).toNat)) (v7) (v8) (v9) (v14) (y5_0) : instr_DecodeX)) (fu := 4000) (orc := (orcw [(1, false)] [] [] [] [(0, (instr_shape_widthT0 (v8)  y0_0  3)), (1, (instr_shape_widthT0 (v8)  y2_0  3)), (2, .sl 0 (y2_0).toNat), (3, (instr_joinT0 (L0) (v4) (((y2_0).toNat - 0)) ((v6 - 0))  y5_0 0 3)), (4, (instr_shape_widthT0 (v8)  y6_0  3)), (5, .sl (y6_0).toNat v5)])) (live := [0, 1, 2]) (tv := fun _ => [some (vs 0 n1 n2 n3), some (vp 1 0), some (vp 2 0), some (Value.slice (some ⟨0, (v4 + ((y6_0).toNat * 1)), none⟩) (v5 - (y6_0).toNat) (v6 - (y6_0).toNat)), some (Value.agg #[vi v7, vi v8, vi v9]), some (vi (2 : Int))]) (bl := [some (.cells (rowV (encI .u8) L0) 5), some (.cells [vq, vq, vq, vq] 38), some (.cells [vi v14, vi y5_0, vq] 51)]) (ob := [(dP ((y6_0).toNat ≤ v5 ∧ v5 ≤ v6), true), (dS v5, true), (y6_0 == Int.ofNat (y6_0).toNat, true), (dP (instr_shape_widthP0 #[vi v8] (v8)  y6_0  3), true), (dP (instr_joinP0 #[Value.slice (some ⟨0, (v4 + (0 * 1)), none⟩) ((y2_0).toNat - 0) (v6 - 0)] (L0) (v4) (((y2_0).toNat - 0)) ((v6 - 0))  y5_0 0 3), true), (dS (rowV (encI .u8) L0), true), (dP (0 ≤ (y2_0).toNat ∧ (y2_0).toNat ≤ v6), true), (y2_0 == Int.ofNat (y2_0).toNat, true), (dS 0, true), (dP (instr_shape_widthP0 #[vi v8] (v8)  y2_0  3), true), ((decide ((v5 : Int) < y0_0)), false), (dP (instr_shape_widthP0 #[vi v8] (v8)  y0_0  3), true)]) rfl (show 1 ∈ rids (instr_DecodeK 1) from by decide +kernel) (fun gv => by kernel_rfl) (obs_cons (dP_of ⟨ltA, ltA⟩) <| oR <| oI <| obs_cons (dP_of (instr_shape_widthC0 #[vi v8] (v8)  y6_0 N c6  3 rfl (by decide) (by decide))) <| obs_cons (dP_of (instr_joinC0 #[Value.slice (some ⟨0, (v4 + (0 * 1)), none⟩) ((y2_0).toNat - 0) (v6 - 0)] (L0) (v4) (((y2_0).toNat - 0)) ((v6 - 0))  y5_0 N c5 0 3 (array_eq (cons_eq (slice_eq eqA rfl rfl) rfl)) (by decide) (by decide))) <| oR <| obs_cons (dP_of ⟨ltA, ltA⟩) <| oI <| oR <| obs_cons (dP_of (instr_shape_widthC0 #[vi v8] (v8)  y2_0 N c2  3 rfl (by decide) (by decide))) <| oN <| obs_cons (dP_of (instr_shape_widthC0 #[vi v8] (v8)  y0_0 N c0  3 rfl (by decide) (by decide))) obs_nil) rfl (by decide) (by rfl) (fun _ => ⟨rr, ⟨rr, ⟨rr, ⟨⟨Eq.trans (show (Value.slice (some ⟨0, ((y6_0).toNat + v4), none⟩) (v5 - (y6_0).toNat) (v6 - (y6_0).toNat) : Value) = Value.slice (some ⟨0, (v4 + ((y6_0).toNat * 1)), none⟩) (v5 - (y6_0).toNat) (v6 - (y6_0).toNat) from (slice_eq eqA rfl rfl)) (by rfl), by rfl⟩, ⟨rr, ⟨rr, trivial⟩⟩⟩⟩⟩⟩) ⟨(same_row (E := (encI .u8)) (α := Int) _ L0 _), ⟨⟨rfl, ⟨[], by rfl⟩, by rfl⟩, ⟨⟨rfl, ⟨[], by rfl⟩, by rfl⟩, trivial⟩⟩⟩
          ·
           exact Mach.ok_none
         ·
          exact Mach.ok_none
        ·
         exact Mach.ok_none
     ·
      exact Mach.ok_none
    ·
     exact Mach.ok_none

theorem instr_Decode_ok1_2 (L0 : List Int) (n1 n2 n3 v4 v5 v6 : Nat) (v7 v8 v9 v14 v15 : Int) (N : Nat) : (instr_DecodeM L0 n1 n2 n3 N).Ok Try.prog ext_Pk (.h1m2 v4 v5 v6 v7 v8 v9 v14 v15 : instr_DecodeX) (instr_DecodeStep L0 n1 n2 n3 N (.h1m2 v4 v5 v6 v7 v8 v9 v14 v15 : instr_DecodeX)) := by
 show (instr_DecodeM L0 n1 n2 n3 N).Ok Try.prog ext_Pk (.h1m2 v4 v5 v6 v7 v8 v9 v14 v15 : instr_DecodeX) (instr_Decode_h1m2 L0 n1 n2 n3 N v4 v5 v6 v7 v8 v9 v14 v15)
 unfold instr_Decode_h1m2
 refine Mach.ok_bind (fun z0 c0 => ?_)
 cases z0 with
 | r0 y0_0 =>
  refine Mach.ok_ite (fun g1 => ?_) (fun g1 => ?_)
  ·
   exact Mach.ok_fin (M := instr_DecodeM L0 n1 n2 n3 N) (cd := 1000000) (cm := 0) (r := (.r0 ((6 : Int)) : instr_DecodeR)) (fu := 4000) (orc := (orcw [(1, true)] [] [] [] [(0, (instr_shape_widthT0 (v9)  y0_0  3))])) (live := [0]) (u := Value.tuple #[Value.agg #[vq, vq, vq, vq], vn, vi (6 : Int)]) (bl := [some (.cells (rowV (encI .u8) L0) 5)]) (ob := [((decide ((v5 : Int) < y0_0)), true), (dP (instr_shape_widthP0 #[vi v9] (v9)  y0_0  3), true)]) (fun gv => by kernel_rfl) (oY <| obs_cons (dP_of (instr_shape_widthC0 #[vi v9] (v9)  y0_0 N c0  3 rfl (by decide) (by decide))) obs_nil) rfl (by decide) (by rfl) rr ⟨(same_row (E := (encI .u8)) (α := Int) _ L0 _), trivial⟩
  ·
   refine Mach.ok_bind (fun z2 c2 => ?_)
   cases z2 with
   | r0 y2_0 =>
    refine Mach.ok_ite (fun g3 => ?_) (fun g3 => ?_)
    ·
     refine Mach.ok_ite (fun g4 => ?_) (fun g4 => ?_)
     ·
      refine Mach.ok_bind (fun z5 c5 => ?_)
      cases z5 with
      | r0 y5_0 =>
       refine Mach.ok_bind (fun z6 c6 => ?_)
       cases z6 with
       | r0 y6_0 =>
        refine Mach.ok_ite (fun g7 => ?_) (fun g7 => ?_)
        ·
         refine Mach.ok_ite (fun g8 => ?_) (fun g8 => ?_)
         ·
          refine Mach.ok_ite (fun g9 => ?_) (fun g9 => ?_)
          ·
           exact Mach.ok_next (M := instr_DecodeM L0 n1 n2 n3 N) (cd := 1000000) (cm := 0) (y := (.h1m3 (((y6_0).toNat + v4)) ((v5 - (y6_0).toNat)) ((v6 - (y6_0).toNat)) (v7) (v8) (v9) (v14) (v15) (y5_0) : instr_DecodeX)) (fu := 4000) (orc := (orcw [(1, false)] [] [] [] [(0, (instr_shape_widthT0 (v9)  y0_0  3)), (1, (instr_shape_widthT0 (v9)  y2_0  3)), (2, .sl 0 (y2_0).toNat), (3, (instr_joinT0 (L0) (v4) (((y2_0).toNat - 0)) ((v6 - 0))  y5_0 0 3)), (4, (instr_shape_widthT0 (v9)  y6_0  3)), (5, .sl (y6_0).toNat v5)])) (live := [0, 1, 2]) (tv := fun _ => [some (vs 0 n1 n2 n3), some (vp 1 0), some (vp 2 0), some (Value.slice (some ⟨0, (v4 + ((y6_0).toNat * 1)), none⟩) (v5 - (y6_0).toNat) (v6 - (y6_0).toNat)), some (Value.agg #[vi v7, vi v8, vi v9]), some (vi (3 : Int))]) (bl := [some (.cells (rowV (encI .u8) L0) 5), some (.cells [vq, vq, vq, vq] 38), some (.cells [vi v14, vi v15, vi y5_0] 51)]) (ob := [(dP ((y6_0).toNat ≤ v5 ∧ v5 ≤ v6), true), (dS v5, true), (y6_0 == Int.ofNat (y6_0).toNat, true), (dP (instr_shape_widthP0 #[vi v9] (v9)  y6_0  3), true), (dP (instr_joinP0 #[Value.slice (some ⟨0, (v4 + (0 * 1)), none⟩) ((y2_0).toNat - 0) (v6 - 0)] (L0) (v4) (((y2_0).toNat - 0)) ((v6 - 0))  y5_0 0 3), true), (dS (rowV (encI .u8) L0), true), (dP (0 ≤ (y2_0).toNat ∧ (y2_0).toNat ≤ v6), true), (y2_0 == Int.ofNat (y2_0).toNat, true), (dS 0, true), (dP (instr_shape_widthP0 #[vi v9] (v9)  y2_0  3), true), ((decide ((v5 : Int) < y0_0)), false), (dP (instr_shape_widthP0 #[vi v9] (v9)  y0_0  3), true)]) rfl (show 1 ∈ rids (instr_DecodeK 1) from by decide +kernel) (fun gv => by kernel_rfl) (obs_cons (dP_of ⟨ltA, ltA⟩) <| oR <| oI <| obs_cons (dP_of (instr_shape_widthC0 #[vi v9] (v9)  y6_0 N c6  3 rfl (by decide) (by decide))) <| obs_cons (dP_of (instr_joinC0 #[Value.slice (some ⟨0, (v4 + (0 * 1)), none⟩) ((y2_0).toNat - 0) (v6 - 0)] (L0) (v4) (((y2_0).toNat - 0)) ((v6 - 0))  y5_0 N c5 0 3 (array_eq (cons_eq (slice_eq eqA rfl rfl) rfl)) (by decide) (by decide))) <| oR <| obs_cons (dP_of ⟨ltA, ltA⟩) <| oI <| oR <| obs_cons (dP_of (instr_shape_widthC0 #[vi v9] (v9)  y2_0 N c2  3 rfl (by decide) (by decide))) <| oN <| obs_cons (dP_of (instr_shape_widthC0 #[vi v9] (v9)  y0_0 N c0  3 rfl (by decide) (by decide))) obs_nil) rfl (by decide) (by rfl) (fun _ => ⟨rr, ⟨rr, ⟨rr, ⟨⟨Eq.trans (show (Value.slice (some ⟨0, ((y6_0).toNat + v4), none⟩) (v5 - (y6_0).toNat) (v6 - (y6_0).toNat) : Value) = Value.slice (some ⟨0, (v4 + ((y6_0).toNat * 1)), none⟩) (v5 - (y6_0).toNat) (v6 - (y6_0).toNat) from (slice_eq eqA rfl rfl)) (by rfl), by rfl⟩, ⟨rr, ⟨rr, trivial⟩⟩⟩⟩⟩⟩) ⟨(same_row (E := (encI .u8)) (α := Int) _ L0 _), ⟨⟨rfl, ⟨[], by rfl⟩, by rfl⟩, ⟨⟨rfl, ⟨[], by rfl⟩, by rfl⟩, trivial⟩⟩⟩
          ·
           exact Mach.ok_none
         ·
          exact Mach.ok_none
        ·
         exact Mach.ok_none
     ·
      exact Mach.ok_none
    ·
     exact Mach.ok_none

theorem instr_Decode_ok1_3 (L0 : List Int) (n1 n2 n3 v4 v5 v6 : Nat) (v7 v8 v9 v14 v15 v16 : Int) (N : Nat) : (instr_DecodeM L0 n1 n2 n3 N).Ok Try.prog ext_Pk (.h1m3 v4 v5 v6 v7 v8 v9 v14 v15 v16 : instr_DecodeX) (instr_DecodeStep L0 n1 n2 n3 N (.h1m3 v4 v5 v6 v7 v8 v9 v14 v15 v16 : instr_DecodeX)) := by
 show (instr_DecodeM L0 n1 n2 n3 N).Ok Try.prog ext_Pk (.h1m3 v4 v5 v6 v7 v8 v9 v14 v15 v16 : instr_DecodeX) (instr_Decode_h1m3 L0 n1 n2 n3 N v4 v5 v6 v7 v8 v9 v14 v15 v16)
 unfold instr_Decode_h1m3
 refine Mach.ok_ite (fun g0 => ?_) (fun g0 => ?_)
 ·
  refine Mach.ok_ite (fun g1 => ?_) (fun g1 => ?_)
  ·
   refine Mach.ok_ite (fun g2 => ?_) (fun g2 => ?_)
   ·
    refine Mach.ok_ite (fun g3 => ?_) (fun g3 => ?_)
    ·
     refine Mach.ok_bind (fun z4 c4 => ?_)
     cases z4 with
     | r0 y4_0 =>
      refine Mach.ok_ite (fun g5 => ?_) (fun g5 => ?_)
      ·
       exact Mach.ok_fin (M := instr_DecodeM L0 n1 n2 n3 N) (cd := 1000000) (cm := 0) (r := (.r0 (y4_0) : instr_DecodeR)) (fu := 4000) (orc := (orcw [(1, true)] [(0, (L0.getD n1 0))] [(0, 0)] [(0, [.k .u8 (L0.getD n1 0)])] [(1, (instr_CheckT0 ((L0.getD n1 0)) (v14) (v15) (v16)  y4_0  4))])) (live := [0]) (u := Value.tuple #[Value.agg #[vq, vq, vq, vq], vn, vi y4_0]) (bl := [some (.cells (rowV (encI .u8) L0) 5)]) (ob := [((y4_0 != (0 : Int)), true), (dP (instr_CheckP0 #[Value.agg #[vi (L0.getD n1 0), vi v14, vi v15, vi v16]] ((L0.getD n1 0)) (v14) (v15) (v16)  y4_0  4), true), ((IntKind.i64.wrap (L0.getD n1 0)) == (L0.getD n1 0), true), (sameR (takeN 1 (List.drop (n1 + (0 * 1)) (rowV (encI .u8) L0))) [.k .u8 (L0.getD n1 0)], true), (Nat.blt 0 n2, true), ((0 : Int) == Int.ofNat 0, true)]) (fun gv => by kernel_rfl) (oD <| obs_cons (dP_of (instr_CheckC0 #[Value.agg #[vi (L0.getD n1 0), vi v14, vi v15, vi v16]] ((L0.getD n1 0)) (v14) (v15) (v16)  y4_0 N c4  4 rfl (by decide) (by decide))) <| obs_cons (beq_iff_eq.2 (wrap_i64 ltA)) <| obs_cons (rowV_load (E := (encI .u8)) (L := L0) (i := n1) (q := 0) (by omega) (show (n1 + (0 * 1)) = n1 * 1 + 0 from by omega) (show 0 + 1 ≤ 1 from by decide) rfl rfl) <| oB <| oI obs_nil) rfl (by decide) (by rfl) rr ⟨(same_row (E := (encI .u8)) (α := Int) _ L0 _), trivial⟩
      ·
       refine Mach.ok_ite (fun g6 => ?_) (fun g6 => ?_)
       ·
        exact Mach.ok_fin (M := instr_DecodeM L0 n1 n2 n3 N) (cd := 1000000) (cm := 0) (r := (.r1 (v14) (v15) (v16) (([] : List Int)) : instr_DecodeR)) (fu := 4000) (orc := (orcw [(1, false)] [(0, (L0.getD n1 0))] [(0, 0)] [(0, [.k .u8 (L0.getD n1 0)])] [(1, (instr_CheckT0 ((L0.getD n1 0)) (v14) (v15) (v16)  y4_0  4)), (2, .ap0)])) (live := [0, 4]) (u := Value.tuple #[Value.agg #[vi (L0.getD n1 0), vi v14, vi v15, vi v16], vs 4 0 0 0, vq]) (bl := [some (.cells (rowV (encI .u8) L0) 5), some (.cells [] 5)]) (ob := [(dP (0 = v5 ∧ takeN (v5 * 1) (List.drop v4 (rowV (encI .u8) L0)) = some [] ∧ allB cell1 [] = true), true), ((y4_0 != (0 : Int)), false), (dP (instr_CheckP0 #[Value.agg #[vi (L0.getD n1 0), vi v14, vi v15, vi v16]] ((L0.getD n1 0)) (v14) (v15) (v16)  y4_0  4), true), ((IntKind.i64.wrap (L0.getD n1 0)) == (L0.getD n1 0), true), (sameR (takeN 1 (List.drop (n1 + (0 * 1)) (rowV (encI .u8) L0))) [.k .u8 (L0.getD n1 0)], true), (Nat.blt 0 n2, true), ((0 : Int) == Int.ofNat 0, true)]) (fun gv => by kernel_rfl) (obs_cons (dP_of ⟨by omega, by rw [show v5 = 0 by omega]; rfl, rfl⟩) <| oE <| obs_cons (dP_of (instr_CheckC0 #[Value.agg #[vi (L0.getD n1 0), vi v14, vi v15, vi v16]] ((L0.getD n1 0)) (v14) (v15) (v16)  y4_0 N c4  4 rfl (by decide) (by decide))) <| obs_cons (beq_iff_eq.2 (wrap_i64 ltA)) <| obs_cons (rowV_load (E := (encI .u8)) (L := L0) (i := n1) (q := 0) (by omega) (show (n1 + (0 * 1)) = n1 * 1 + 0 from by omega) (show 0 + 1 ≤ 1 from by decide) rfl rfl) <| oB <| oI obs_nil) rfl (by decide) (by rfl) ⟨Eq.trans (show (Value.tuple #[Value.agg #[vi (L0.getD n1 0), vi v14, vi v15, vi v16], vs 1 0 ([] : List Int).length ([] : List Int).length, vq] : Value) = Value.tuple #[Value.agg #[vi (L0.getD n1 0), vi v14, vi v15, vi v16], vs 1 0 0 0, vq] from (tuple_eq (cons_eq rfl (cons_eq (slice_eq rfl eqA eqA) (cons_eq rfl rfl))))) (by rfl), by rfl⟩ ⟨(same_row (E := (encI .u8)) (α := Int) _ L0 _), ⟨(same_cells (E := (encI .u8)) _ (L := ([] : List Int)) _ (show ([] : List Value) = rowV (encI .u8) ([] : List Int) from rfl)), trivial⟩⟩
       ·
        refine Mach.ok_ite (fun g7 => ?_) (fun g7 => ?_)
        ·
         refine Mach.ok_ite (fun g8 => ?_) (fun g8 => ?_)
         ·
          exact Mach.ok_fin (M := instr_DecodeM L0 n1 n2 n3 N) (cd := 1000000) (cm := 0) (r := (.r1 (v14) (v15) (v16) (((L0.drop v4).take v5)) : instr_DecodeR)) (fu := 4000) (orc := (orcw [(1, false)] [(0, (L0.getD n1 0))] [(0, 0)] [(0, [.k .u8 (L0.getD n1 0)])] [(1, (instr_CheckT0 ((L0.getD n1 0)) (v14) (v15) (v16)  y4_0  4)), (2, .ap v5 (rowV (encI .u8) ((L0.drop v4).take v5)) (rowV (encI .u8) ((L0.drop v4).take v5)))])) (live := [0, 5]) (u := Value.tuple #[Value.agg #[vi (L0.getD n1 0), vi v14, vi v15, vi v16], vs 5 0 (0 + v5) (0 + v5), vq]) (bl := [some (.cells (rowV (encI .u8) L0) 5), some (.cells (rowV (encI .u8) ((L0.drop v4).take v5)) 5)]) (ob := [(dP ((v5 = v5 ∧ takeN (v5 * 1) (List.drop v4 (rowV (encI .u8) L0)) = some (rowV (encI .u8) ((L0.drop v4).take v5)) ∧ allB cell1 (rowV (encI .u8) ((L0.drop v4).take v5)) = true) ∧ 0 < v5 ∧ v5 ≤ 100000 ∧ 0 < 0 + v5 ∧ 0 ≤ 100000 ∧ 0 * 1 ≤ (List.length []) ∧ List.take (0 * 1) [] ++ (rowV (encI .u8) ((L0.drop v4).take v5)) = (rowV (encI .u8) ((L0.drop v4).take v5))), true), ((y4_0 != (0 : Int)), false), (dP (instr_CheckP0 #[Value.agg #[vi (L0.getD n1 0), vi v14, vi v15, vi v16]] ((L0.getD n1 0)) (v14) (v15) (v16)  y4_0  4), true), ((IntKind.i64.wrap (L0.getD n1 0)) == (L0.getD n1 0), true), (sameR (takeN 1 (List.drop (n1 + (0 * 1)) (rowV (encI .u8) L0))) [.k .u8 (L0.getD n1 0)], true), (Nat.blt 0 n2, true), ((0 : Int) == Int.ofNat 0, true)]) (fun gv => by kernel_rfl) (obs_cons (dP_of ⟨⟨rfl, (src_row (E := (encI .u8)) (L := L0) (a := v4) (n := v5) (by omega) (by show _ = _ * 1; omega) (show _ = _ * 1 from rfl) rfl)⟩, by omega, by omega, ltA, by omega, (rowV_dst (E := (encI .u8)) (L := ([] : List Int)) (M := ((L0.drop v4).take v5)) (n := 0) (show _ = _ * 1 from rfl) ltA (R := ((L0.drop v4).take v5)) (by rw [List.take_of_length_le ltA]; rfl))⟩) <| oE <| obs_cons (dP_of (instr_CheckC0 #[Value.agg #[vi (L0.getD n1 0), vi v14, vi v15, vi v16]] ((L0.getD n1 0)) (v14) (v15) (v16)  y4_0 N c4  4 rfl (by decide) (by decide))) <| obs_cons (beq_iff_eq.2 (wrap_i64 ltA)) <| obs_cons (rowV_load (E := (encI .u8)) (L := L0) (i := n1) (q := 0) (by omega) (show (n1 + (0 * 1)) = n1 * 1 + 0 from by omega) (show 0 + 1 ≤ 1 from by decide) rfl rfl) <| oB <| oI obs_nil) rfl (by decide) (by rfl) ⟨Eq.trans (show (Value.tuple #[Value.agg #[vi (L0.getD n1 0), vi v14, vi v15, vi v16], vs 1 0 ((L0.drop v4).take v5).length ((L0.drop v4).take v5).length, vq] : Value) = Value.tuple #[Value.agg #[vi (L0.getD n1 0), vi v14, vi v15, vi v16], vs 1 0 (0 + v5) (0 + v5), vq] from (tuple_eq (cons_eq rfl (cons_eq (slice_eq rfl eqA eqA) (cons_eq rfl rfl))))) (by rfl), by rfl⟩ ⟨(same_row (E := (encI .u8)) (α := Int) _ L0 _), ⟨(same_row (E := (encI .u8)) (α := Int) _ ((L0.drop v4).take v5) _), trivial⟩⟩
         ·
          exact Mach.ok_none
        ·
         exact Mach.ok_none
    ·
     exact Mach.ok_none
   ·
    exact Mach.ok_none
  ·
   exact Mach.ok_none
 ·
  exact Mach.ok_none

theorem instr_Decode_en (L0 : List Int) (n1 n2 n3 N : Nat) : (instr_DecodeM L0 n1 n2 n3 N).Enter Try.prog ext_Pk #[vs 0 n1 n2 n3] (instr_DecodeIn L0 n1 n2 n3 N) := by
 unfold instr_DecodeIn
 refine Mach.en_ite (fun g0 => ?_) (fun g0 => ?_)
 ·
  exact Mach.en_fin (M := instr_DecodeM L0 n1 n2 n3 N) (cd := 1000000) (cm := 0) (r := (.r0 ((6 : Int)) : instr_DecodeR)) (fu := 4000) (orc := (orcw [(0, true)] [] [] [] [])) (live := [0]) (u := Value.tuple #[Value.agg #[vq, vq, vq, vq], vn, vi (6 : Int)]) (bl := [some (.cells (rowV (encI .u8) L0) 5)]) (ob := [(((n2 : Int) == (0 : Int)), true)]) (by kernel_rfl) (oT obs_nil) rfl (by decide) (by rfl) rr ⟨(same_row (E := (encI .u8)) (α := Int) _ L0 _), trivial⟩
 ·
  refine Mach.en_ite (fun g1 => ?_) (fun g1 => ?_)
  ·
   refine Mach.en_ite (fun g2 => ?_) (fun g2 => ?_)
   ·
    refine Mach.en_ite (fun g3 => ?_) (fun g3 => ?_)
    ·
     refine Mach.en_bind (fun z4 c4 => ?_)
     cases z4 with
     | r0 y4_0 y4_1 y4_2 y4_3 =>
      refine Mach.en_ite (fun g5 => ?_) (fun g5 => ?_)
      ·
       exact Mach.en_fin (M := instr_DecodeM L0 n1 n2 n3 N) (cd := 1000000) (cm := 0) (r := (.r0 ((100 : Int)) : instr_DecodeR)) (fu := 4000) (orc := (orcw [(0, false), (1, true)] [(0, (L0.getD n1 0))] [(0, 0)] [(0, [.k .u8 (L0.getD n1 0)])] [(0, (instr_kind_2T0 ((L0.getD n1 0))  y4_0 y4_1 y4_2 y4_3  2))])) (live := [0]) (u := Value.tuple #[Value.agg #[vq, vq, vq, vq], vn, vi (100 : Int)]) (bl := [some (.cells (rowV (encI .u8) L0) 5)]) (ob := [(((strOf y4_0).toList == (⟨#[]⟩ : ByteArray).toList), true), (dP (instr_kind_2P0 #[vi (L0.getD n1 0)] ((L0.getD n1 0))  y4_0 y4_1 y4_2 y4_3  2), true), ((IntKind.i64.wrap (L0.getD n1 0)) == (L0.getD n1 0), true), (sameR (takeN 1 (List.drop (n1 + (0 * 1)) (rowV (encI .u8) L0))) [.k .u8 (L0.getD n1 0)], true), (Nat.blt 0 n2, true), ((0 : Int) == Int.ofNat 0, true), (((n2 : Int) == (0 : Int)), false)]) (by kernel_rfl) (obs_cons (strB_t (x := y4_0) (y := ([] : List Int)) (by assumption)) <| obs_cons (dP_of (instr_kind_2C0 #[vi (L0.getD n1 0)] ((L0.getD n1 0))  y4_0 y4_1 y4_2 y4_3 N c4  2 rfl (by decide) (by decide))) <| obs_cons (beq_iff_eq.2 (wrap_i64 ltA)) <| obs_cons (rowV_load (E := (encI .u8)) (L := L0) (i := n1) (q := 0) (by omega) (show (n1 + (0 * 1)) = n1 * 1 + 0 from by omega) (show 0 + 1 ≤ 1 from by decide) rfl rfl) <| oB <| oI <| oF obs_nil) rfl (by decide) (by rfl) rr ⟨(same_row (E := (encI .u8)) (α := Int) _ L0 _), trivial⟩
      ·
       refine Mach.en_ite (fun g6 => ?_) (fun g6 => ?_)
       ·
        exact Mach.en_head (bK := instr_DecodeC 1) (M := instr_DecodeM L0 n1 n2 n3 N) (cd := 1000000) (cm := 0) (y := (.h1m0 (y4_1) (y4_2) (y4_3) : instr_DecodeX)) (fu := 4000) (orc := (orcw [(0, false), (1, false)] [(0, (L0.getD n1 0))] [(0, 0)] [(0, [.k .u8 (L0.getD n1 0)])] [(0, (instr_kind_2T0 ((L0.getD n1 0))  y4_0 y4_1 y4_2 y4_3  2)), (2, .sl 1 n2)])) (live := [0, 1, 3]) (tv := [some (vs 0 n1 n2 n3), some (vp 1 0), some (vp 3 0), some (Value.slice (some ⟨0, (n1 + (1 * 1)), none⟩) (n2 - 1) (n3 - 1)), some (Value.agg #[vi y4_1, vi y4_2, vi y4_3]), some (vq)]) (bl := [some (.cells (rowV (encI .u8) L0) 5), some (.cells [vq, vq, vq, vq] 38), some (.cells [vq, vq, vq] 51)]) (ob := [(dP (1 ≤ n2 ∧ n2 ≤ n3), true), (dS n2, true), ((1 : Int) == Int.ofNat 1, true), (((strOf y4_0).toList == (⟨#[]⟩ : ByteArray).toList), false), (dP (instr_kind_2P0 #[vi (L0.getD n1 0)] ((L0.getD n1 0))  y4_0 y4_1 y4_2 y4_3  2), true), ((IntKind.i64.wrap (L0.getD n1 0)) == (L0.getD n1 0), true), (sameR (takeN 1 (List.drop (n1 + (0 * 1)) (rowV (encI .u8) L0))) [.k .u8 (L0.getD n1 0)], true), (Nat.blt 0 n2, true), ((0 : Int) == Int.ofNat 0, true), (((n2 : Int) == (0 : Int)), false)]) rfl rfl (show rids (instr_DecodeC 1).2 = [] from rfl) (by kernel_rfl) (obs_cons (dP_of ⟨ltA, ltA⟩) <| oR <| oI <| obs_cons (strB_f (x := y4_0) (y := ([] : List Int)) (by assumption)) <| obs_cons (dP_of (instr_kind_2C0 #[vi (L0.getD n1 0)] ((L0.getD n1 0))  y4_0 y4_1 y4_2 y4_3 N c4  2 rfl (by decide) (by decide))) <| obs_cons (beq_iff_eq.2 (wrap_i64 ltA)) <| obs_cons (rowV_load (E := (encI .u8)) (L := L0) (i := n1) (q := 0) (by omega) (show (n1 + (0 * 1)) = n1 * 1 + 0 from by omega) (show 0 + 1 ≤ 1 from by decide) rfl rfl) <| oB <| oI <| oF obs_nil) rfl (by decide) (by rfl) ⟨rr, ⟨rr, ⟨rr, ⟨⟨Eq.trans (show (vs 0 (n1 + 1) (n2 - 1) (n3 - 1) : Value) = Value.slice (some ⟨0, (n1 + (1 * 1)), none⟩) (n2 - 1) (n3 - 1) from (slice_eq eqA rfl rfl)) (by rfl), by rfl⟩, ⟨rr, ⟨rr, trivial⟩⟩⟩⟩⟩⟩ ⟨(same_row (E := (encI .u8)) (α := Int) _ L0 _), ⟨⟨rfl, ⟨[], by rfl⟩, by rfl⟩, ⟨⟨rfl, ⟨[], by rfl⟩, by rfl⟩, trivial⟩⟩⟩
       ·
        exact Mach.en_none
    ·
     exact Mach.en_none
   ·
    exact Mach.en_none
  ·
   exact Mach.en_none

theorem instr_Decode_spec (L0 : List Int) (n1 n2 n3 N : Nat) (r : instr_DecodeR) (h : instr_Decode L0 n1 n2 n3 N = some r) : LSpec Try.prog 18 #[vs 0 n1 n2 n3] [.cells (rowV (encI .u8) L0) 5] (instr_DecodeV L0 n1 n2 n3 r) (instr_DecodePo L0 n1 n2 n3 r) :=
 Mach.spec fit_Pk (instr_DecodeM L0 n1 n2 n3 N) Try.func18 (by kernel_rfl) (by kernel_rfl) (fun x => by cases x <;> exact le_far _ rfl) (fun r => by cases r <;> exact le_far _ rfl) (fun x => by
  cases x with
  | h1m0 _ _ _ => exact fun _ => (show ¬ (1 ∈ rids (instr_DecodeC 1).2) from by decide +kernel)
  | h1m1 _ _ _ _ _ _ _ => exact fun _ => (show ¬ (1 ∈ rids (instr_DecodeC 1).2) from by decide +kernel)
  | h1m2 _ _ _ _ _ _ _ _ => exact fun _ => (show ¬ (1 ∈ rids (instr_DecodeC 1).2) from by decide +kernel)
  | h1m3 _ _ _ _ _ _ _ _ _ => exact fun _ => (show ¬ (1 ∈ rids (instr_DecodeC 1).2) from by decide +kernel)
  ) (fun x => (show (instr_DecodeM L0 n1 n2 n3 N).Ok Try.prog ext_Pk x (instr_DecodeStep L0 n1 n2 n3 N x) from by
  cases x with
  | h1m0 v7 v8 v9 => exact instr_Decode_ok1_0 L0 n1 n2 n3 v7 v8 v9 N
  | h1m1 v4 v5 v6 v7 v8 v9 v14 => exact instr_Decode_ok1_1 L0 n1 n2 n3 v4 v5 v6 v7 v8 v9 v14 N
  | h1m2 v4 v5 v6 v7 v8 v9 v14 v15 => exact instr_Decode_ok1_2 L0 n1 n2 n3 v4 v5 v6 v7 v8 v9 v14 v15 N
  | h1m3 v4 v5 v6 v7 v8 v9 v14 v15 v16 => exact instr_Decode_ok1_3 L0 n1 n2 n3 v4 v5 v6 v7 v8 v9 v14 v15 v16 N
  )) (instr_Decode_en L0 n1 n2 n3 N) (n := N) h

noncomputable def instr_DecodeT0 (L0 : List Int) (n1 n2 n3 : Nat) (w5 : Int) (k0 n : Nat) : Told := .call [(k0, .cells (rowV (encI .u8) L0) 5)] (Value.tuple #[Value.agg #[vq, vq, vq, vq], vn, vi w5]) [] 0
def instr_DecodeP0 (A : Array Value) (L0 : List Int) (n1 n2 n3 : Nat) (w5 : Int) (k0 n : Nat) : Prop := CallSpec Try.prog 18 A [(k0, .cells (rowV (encI .u8) L0) 5)] (Value.tuple #[Value.agg #[vq, vq, vq, vq], vn, vi w5]) [] n 0

theorem instr_DecodeC0 (A : Array Value) (L0 : List Int) (n1 n2 n3 : Nat) (w5 : Int) (N : Nat) (h : instr_Decode L0 n1 n2 n3 N = some (.r0 w5)) (k0 n : Nat) (hA : A = #[vs k0 n1 n2 n3]) (hnd : ([k0] : List Nat).Nodup) (hlt : ∀ k ∈ ([k0] : List Nat), k < n) : instr_DecodeP0 A L0 n1 n2 n3 w5 k0 n :=
 cs_args hA (LSpec.callL (show LSpec Try.prog 18 #[vs 0 n1 n2 n3] [.cells (rowV (encI .u8) L0) 5] (Value.tuple #[Value.agg #[vq, vq, vq, vq], vn, vi w5]) [some (.cells (rowV (encI .u8) L0) 5)] from instr_Decode_spec L0 n1 n2 n3 N _ h) [k0] n [] rfl hnd hlt (show 1 ≤ 1 from by decide) (show ∀ j ∈ ([] : List Nat), j < 1 from by decide) (by rfl) ⟨(under_row _ _ _), trivial⟩ (by rfl) ⟨(under_row _ _ _), trivial⟩ ⟨.inr rfl, trivial⟩ rfl rfl rfl (cons_eq (pair_eq rfl (renO_row _ _ _)) rfl) rfl)

noncomputable def instr_DecodeT1 (L0 : List Int) (n1 n2 n3 : Nat) (w2 w3 w4 : Int) (w5 : List Int) (k0 n : Nat) : Told := .call [(k0, .cells (rowV (encI .u8) L0) 5)] (Value.tuple #[Value.agg #[vi (L0.getD n1 0), vi w2, vi w3, vi w4], vs n 0 w5.length w5.length, vq]) [(n, some (.cells (rowV (encI .u8) w5) 5))] 1
def instr_DecodeP1 (A : Array Value) (L0 : List Int) (n1 n2 n3 : Nat) (w2 w3 w4 : Int) (w5 : List Int) (k0 n : Nat) : Prop := CallSpec Try.prog 18 A [(k0, .cells (rowV (encI .u8) L0) 5)] (Value.tuple #[Value.agg #[vi (L0.getD n1 0), vi w2, vi w3, vi w4], vs n 0 w5.length w5.length, vq]) [(n, some (.cells (rowV (encI .u8) w5) 5))] n 1

theorem instr_DecodeC1 (A : Array Value) (L0 : List Int) (n1 n2 n3 : Nat) (w2 w3 w4 : Int) (w5 : List Int) (N : Nat) (h : instr_Decode L0 n1 n2 n3 N = some (.r1 w2 w3 w4 w5)) (k0 n : Nat) (hA : A = #[vs k0 n1 n2 n3]) (hnd : ([k0] : List Nat).Nodup) (hlt : ∀ k ∈ ([k0] : List Nat), k < n) : instr_DecodeP1 A L0 n1 n2 n3 w2 w3 w4 w5 k0 n :=
 cs_args hA (LSpec.callL (show LSpec Try.prog 18 #[vs 0 n1 n2 n3] [.cells (rowV (encI .u8) L0) 5] (Value.tuple #[Value.agg #[vi (L0.getD n1 0), vi w2, vi w3, vi w4], vs 1 0 w5.length w5.length, vq]) [some (.cells (rowV (encI .u8) L0) 5), some (.cells (rowV (encI .u8) w5) 5)] from instr_Decode_spec L0 n1 n2 n3 N _ h) [k0] n [1] rfl hnd hlt (show 1 ≤ 2 from by decide) (show ∀ j ∈ ([1] : List Nat), j < 2 from by decide) (by rfl) ⟨(under_row _ _ _), trivial⟩ (by rfl) ⟨(under_row _ _ _), ⟨(under_row _ _ _), trivial⟩⟩ ⟨.inr rfl, ⟨(by decide), trivial⟩⟩ rfl rfl rfl (cons_eq (pair_eq rfl (renO_row _ _ _)) rfl) (cons_eq (pair_eq rfl (some_eq (renO_row _ _ _))) rfl))

noncomputable def instr_Decode_2V  : instr_Decode_2R → Value
 | .r0 => Value.tuple #[Value.agg #[vq, vq, vq, vq], vn, vi (6 : Int)]
noncomputable def instr_Decode_2Po  : instr_Decode_2R → List (Option AObj)
 | .r0 => []

theorem instr_Decode_2_fx  (N : Nat) : Fx Try.prog ext_Pk Try.f18 [] #[vn] (instr_Decode_2V ) (instr_Decode_2Po ) (instr_Decode_2  N) := by
 unfold instr_Decode_2
 exact fx_fin (r := (.r0 : instr_Decode_2R)) (fu := 4000) (orc := (orcw [] [] [] [] [])) (live := []) (u := Value.tuple #[Value.agg #[vq, vq, vq, vq], vn, vi (6 : Int)]) (bl := []) (ob := []) (by kernel_rfl) obs_nil rfl (by decide) (by rfl) rr trivial

theorem instr_Decode_2_spec  (N : Nat) (r : instr_Decode_2R) (h : instr_Decode_2  N = some r) : LSpec Try.prog 18 #[vn] [] (instr_Decode_2V  r) (instr_Decode_2Po  r) :=
 fx_spec fit_Pk Try.func18 (by kernel_rfl) (by kernel_rfl) (fun r => by cases r <;> exact le_far _ rfl) (instr_Decode_2_fx  N) h

noncomputable def instr_Decode_2T0  (n : Nat) : Told := .call [] (Value.tuple #[Value.agg #[vq, vq, vq, vq], vn, vi (6 : Int)]) [] 0
def instr_Decode_2P0 (A : Array Value)  (n : Nat) : Prop := CallSpec Try.prog 18 A [] (Value.tuple #[Value.agg #[vq, vq, vq, vq], vn, vi (6 : Int)]) [] n 0

theorem instr_Decode_2C0 (A : Array Value)  (N : Nat) (h : instr_Decode_2  N = some (.r0)) (n : Nat) (hA : A = #[vn]) (hnd : ([] : List Nat).Nodup) (hlt : ∀ k ∈ ([] : List Nat), k < n) : instr_Decode_2P0 A   n :=
 cs_args hA (LSpec.callL (show LSpec Try.prog 18 #[vn] [] (Value.tuple #[Value.agg #[vq, vq, vq, vq], vn, vi (6 : Int)]) [] from instr_Decode_2_spec  N _ h) [] n [] rfl hnd hlt (show 0 ≤ 0 from by decide) (show ∀ j ∈ ([] : List Nat), j < 0 from by decide) (by rfl) trivial (by rfl) trivial trivial rfl rfl rfl rfl rfl)

noncomputable def instr_Decode_3V (L0 : List Int) (n1 n2 : Nat) : instr_Decode_3R → Value
 | .r0 w5 => Value.tuple #[Value.agg #[vq, vq, vq, vq], vn, vi w5]
 | .r1 w2 w3 w4 w5 => Value.tuple #[Value.agg #[vi (L0.getD 0 0), vi w2, vi w3, vi w4], vs 1 0 w5.length w5.length, vq]
noncomputable def instr_Decode_3Po (L0 : List Int) (n1 n2 : Nat) : instr_Decode_3R → List (Option AObj)
 | .r0 w5 => [some (.cells (rowV (encI .u8) L0) 5)]
 | .r1 w2 w3 w4 w5 => [some (.cells (rowV (encI .u8) L0) 5), some (.cells (rowV (encI .u8) w5) 5)]

def instr_Decode_3Hd : instr_Decode_3X → Nat
 | .h1m0 v6 v7 v8 => 1
 | .h1m1 v3 v4 v5 v6 v7 v8 v13 => 1
 | .h1m2 v3 v4 v5 v6 v7 v8 v13 v14 => 1
 | .h1m3 v3 v4 v5 v6 v7 v8 v13 v14 v15 => 1
noncomputable def instr_Decode_3L (L0 : List Int) (n1 n2 : Nat) : instr_Decode_3X → List (Nat × Value)
 | .h1m0 v6 v7 v8 => [(0, vs 0 0 n1 n2), (2, vp 1 0), (6, vp 2 0), (7, vs 0 1 (n1 - 1) (n2 - 1)), (28, Value.agg #[vi v6, vi v7, vi v8]), (29, vq)]
 | .h1m1 v3 v4 v5 v6 v7 v8 v13 => [(0, vs 0 0 n1 n2), (2, vp 1 0), (6, vp 2 0), (7, vs 0 v3 v4 v5), (28, Value.agg #[vi v6, vi v7, vi v8]), (29, vi (1 : Int))]
 | .h1m2 v3 v4 v5 v6 v7 v8 v13 v14 => [(0, vs 0 0 n1 n2), (2, vp 1 0), (6, vp 2 0), (7, vs 0 v3 v4 v5), (28, Value.agg #[vi v6, vi v7, vi v8]), (29, vi (2 : Int))]
 | .h1m3 v3 v4 v5 v6 v7 v8 v13 v14 v15 => [(0, vs 0 0 n1 n2), (2, vp 1 0), (6, vp 2 0), (7, vs 0 v3 v4 v5), (28, Value.agg #[vi v6, vi v7, vi v8]), (29, vi (3 : Int))]
noncomputable def instr_Decode_3H (L0 : List Int) (n1 n2 : Nat) : instr_Decode_3X → List (Option AObj)
 | .h1m0 v6 v7 v8 => [some (.cells (rowV (encI .u8) L0) 5), some (.cells [vq, vq, vq, vq] 38), some (.cells [vq, vq, vq] 51)]
 | .h1m1 v3 v4 v5 v6 v7 v8 v13 => [some (.cells (rowV (encI .u8) L0) 5), some (.cells [vq, vq, vq, vq] 38), some (.cells [vi v13, vq, vq] 51)]
 | .h1m2 v3 v4 v5 v6 v7 v8 v13 v14 => [some (.cells (rowV (encI .u8) L0) 5), some (.cells [vq, vq, vq, vq] 38), some (.cells [vi v13, vi v14, vq] 51)]
 | .h1m3 v3 v4 v5 v6 v7 v8 v13 v14 v15 => [some (.cells (rowV (encI .u8) L0) 5), some (.cells [vq, vq, vq, vq] 38), some (.cells [vi v13, vi v14, vi v15] 51)]

noncomputable def instr_Decode_3C : Nat → Code × List Kont
 | 1 => headOf [1, 1, 1, 1, 1, 1, 0, 1, 3] (bodyC Try.f18) []
 | _ => (.skip, [])
def instr_Decode_3IL : Nat → Bool
 | 1 => true
 | _ => true
noncomputable def instr_Decode_3K (i : Nat) : List Kont := match instr_Decode_3IL i with | true => .rnd i :: (instr_Decode_3C i).2 | false => (instr_Decode_3C i).2

noncomputable def instr_Decode_3M (L0 : List Int) (n1 n2 N : Nat) : Mach := ⟨Try.f18, [.cells (rowV (encI .u8) L0) 5], instr_Decode_3X, instr_Decode_3R, instr_Decode_3Step L0 n1 n2 N, instr_Decode_3Hd, instr_Decode_3C, instr_Decode_3IL, instr_Decode_3L L0 n1 n2, instr_Decode_3H L0 n1 n2, instr_Decode_3V L0 n1 n2, instr_Decode_3Po L0 n1 n2⟩

theorem instr_Decode_3_ok1_0 (L0 : List Int) (n1 n2 : Nat) (v6 v7 v8 : Int) (N : Nat) : (instr_Decode_3M L0 n1 n2 N).Ok Try.prog ext_Pk (.h1m0 v6 v7 v8 : instr_Decode_3X) (instr_Decode_3Step L0 n1 n2 N (.h1m0 v6 v7 v8 : instr_Decode_3X)) := by
 show (instr_Decode_3M L0 n1 n2 N).Ok Try.prog ext_Pk (.h1m0 v6 v7 v8 : instr_Decode_3X) (instr_Decode_3_h1m0 L0 n1 n2 N v6 v7 v8)
 unfold instr_Decode_3_h1m0
 refine Mach.ok_bind (fun z0 c0 => ?_)
 cases z0 with
 | r0 y0_0 =>
  refine Mach.ok_ite (fun g1 => ?_) (fun g1 => ?_)
  ·
   exact Mach.ok_fin (M := instr_Decode_3M L0 n1 n2 N) (cd := 1000000) (cm := 0) (r := (.r0 ((6 : Int)) : instr_Decode_3R)) (fu := 4000) (orc := (orcw [(1, true)] [] [] [] [(0, (instr_shape_widthT0 (v6)  y0_0  3))])) (live := [0]) (u := Value.tuple #[Value.agg #[vq, vq, vq, vq], vn, vi (6 : Int)]) (bl := [some (.cells (rowV (encI .u8) L0) 5)]) (ob := [((decide ((((n1 - 1) : Nat) : Int) < y0_0)), true), (dP (instr_shape_widthP0 #[vi v6] (v6)  y0_0  3), true)]) (fun gv => by kernel_rfl) (oY <| obs_cons (dP_of (instr_shape_widthC0 #[vi v6] (v6)  y0_0 N c0  3 rfl (by decide) (by decide))) obs_nil) rfl (by decide) (by rfl) rr ⟨(same_row (E := (encI .u8)) (α := Int) _ L0 _), trivial⟩
  ·
   refine Mach.ok_bind (fun z2 c2 => ?_)
   cases z2 with
   | r0 y2_0 =>
    refine Mach.ok_ite (fun g3 => ?_) (fun g3 => ?_)
    ·
     refine Mach.ok_ite (fun g4 => ?_) (fun g4 => ?_)
     ·
      refine Mach.ok_bind (fun z5 c5 => ?_)
      cases z5 with
      | r0 y5_0 =>
       refine Mach.ok_bind (fun z6 c6 => ?_)
       cases z6 with
       | r0 y6_0 =>
        refine Mach.ok_ite (fun g7 => ?_) (fun g7 => ?_)
        ·
         refine Mach.ok_ite (fun g8 => ?_) (fun g8 => ?_)
         ·
          refine Mach.ok_ite (fun g9 => ?_) (fun g9 => ?_)
          ·
           exact Mach.ok_next (M := instr_Decode_3M L0 n1 n2 N) (cd := 1000000) (cm := 0) (y := (.h1m1 (((y6_0).toNat + 1)) (((n1 - 1) - (y6_0).toNat)) (((n2 - 1) - (y6_0).toNat)) (v6) (v7) (v8) (y5_0) : instr_Decode_3X)) (fu := 4000) (orc := (orcw [(1, false)] [] [] [] [(0, (instr_shape_widthT0 (v6)  y0_0  3)), (1, (instr_shape_widthT0 (v6)  y2_0  3)), (2, .sl 0 (y2_0).toNat), (3, (instr_joinT0 (L0) (1) (((y2_0).toNat - 0)) (((n2 - 1) - 0))  y5_0 0 3)), (4, (instr_shape_widthT0 (v6)  y6_0  3)), (5, .sl (y6_0).toNat (n1 - 1))])) (live := [0, 1, 2]) (tv := fun _ => [some (vs 0 0 n1 n2), some (vp 1 0), some (vp 2 0), some (Value.slice (some ⟨0, (1 + ((y6_0).toNat * 1)), none⟩) ((n1 - 1) - (y6_0).toNat) ((n2 - 1) - (y6_0).toNat)), some (Value.agg #[vi v6, vi v7, vi v8]), some (vi (1 : Int))]) (bl := [some (.cells (rowV (encI .u8) L0) 5), some (.cells [vq, vq, vq, vq] 38), some (.cells [vi y5_0, vq, vq] 51)]) (ob := [(dP ((y6_0).toNat ≤ (n1 - 1) ∧ (n1 - 1) ≤ (n2 - 1)), true), (dS (n1 - 1), true), (y6_0 == Int.ofNat (y6_0).toNat, true), (dP (instr_shape_widthP0 #[vi v6] (v6)  y6_0  3), true), (dP (instr_joinP0 #[Value.slice (some ⟨0, (1 + (0 * 1)), none⟩) ((y2_0).toNat - 0) ((n2 - 1) - 0)] (L0) (1) (((y2_0).toNat - 0)) (((n2 - 1) - 0))  y5_0 0 3), true), (dS (rowV (encI .u8) L0), true), (dP (0 ≤ (y2_0).toNat ∧ (y2_0).toNat ≤ (n2 - 1)), true), (y2_0 == Int.ofNat (y2_0).toNat, true), (dS 0, true), (dP (instr_shape_widthP0 #[vi v6] (v6)  y2_0  3), true), ((decide ((((n1 - 1) : Nat) : Int) < y0_0)), false), (dP (instr_shape_widthP0 #[vi v6] (v6)  y0_0  3), true)]) rfl (show 1 ∈ rids (instr_Decode_3K 1) from by decide +kernel) (fun gv => by kernel_rfl) (obs_cons (dP_of ⟨ltA, ltA⟩) <| oR <| oI <| obs_cons (dP_of (instr_shape_widthC0 #[vi v6] (v6)  y6_0 N c6  3 rfl (by decide) (by decide))) <| obs_cons (dP_of (instr_joinC0 #[Value.slice (some ⟨0, (1 + (0 * 1)), none⟩) ((y2_0).toNat - 0) ((n2 - 1) - 0)] (L0) (1) (((y2_0).toNat - 0)) (((n2 - 1) - 0))  y5_0 N c5 0 3 (array_eq (cons_eq (slice_eq eqA rfl rfl) rfl)) (by decide) (by decide))) <| oR <| obs_cons (dP_of ⟨ltA, ltA⟩) <| oI <| oR <| obs_cons (dP_of (instr_shape_widthC0 #[vi v6] (v6)  y2_0 N c2  3 rfl (by decide) (by decide))) <| oN <| obs_cons (dP_of (instr_shape_widthC0 #[vi v6] (v6)  y0_0 N c0  3 rfl (by decide) (by decide))) obs_nil) rfl (by decide) (by rfl) (fun _ => ⟨rr, ⟨rr, ⟨rr, ⟨⟨Eq.trans (show (Value.slice (some ⟨0, ((y6_0).toNat + 1), none⟩) ((n1 - 1) - (y6_0).toNat) ((n2 - 1) - (y6_0).toNat) : Value) = Value.slice (some ⟨0, (1 + ((y6_0).toNat * 1)), none⟩) ((n1 - 1) - (y6_0).toNat) ((n2 - 1) - (y6_0).toNat) from (slice_eq eqA rfl rfl)) (by rfl), by rfl⟩, ⟨rr, ⟨rr, trivial⟩⟩⟩⟩⟩⟩) ⟨(same_row (E := (encI .u8)) (α := Int) _ L0 _), ⟨⟨rfl, ⟨[], by rfl⟩, by rfl⟩, ⟨⟨rfl, ⟨[], by rfl⟩, by rfl⟩, trivial⟩⟩⟩
          ·
           exact Mach.ok_none
         ·
          exact Mach.ok_none
        ·
         exact Mach.ok_none
     ·
      exact Mach.ok_none
    ·
     exact Mach.ok_none

end Ev
end Go.Proofs.Ytaahblgahilohaa
