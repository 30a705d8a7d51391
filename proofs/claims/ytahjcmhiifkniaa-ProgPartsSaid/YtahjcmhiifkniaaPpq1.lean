/- Calls do what the plain functions say. -/
import Derived.Test.YtahjcmhiifkniaaPpa
namespace Go.Proofs.Ytahjcmhiifkniaa
open Go.RowKit
namespace Ev
set_option linter.unusedVariables false
set_option maxRecDepth 100000
noncomputable def instr_TargetV (a0 a1 a2 a3 : Int) : instr_TargetR → Value
 | .r0 w0 w1 => Value.tuple #[vi w0, Value.bool w1]
noncomputable def instr_TargetPo (a0 a1 a2 a3 : Int) : instr_TargetR → List (Option AObj)
 | .r0 w0 w1 => []

theorem instr_Target_fx (a0 a1 a2 a3 : Int) (N : Nat) : Fx Try.prog ext_Pp Try.f13 [] #[Value.agg #[vi a0, vi a1, vi a2, vi a3]] (instr_TargetV a0 a1 a2 a3) (instr_TargetPo a0 a1 a2 a3) (instr_Target a0 a1 a2 a3 N) := by
 unfold instr_Target
 refine fx_ite (fun g0 => ?_) (fun g0 => ?_)
 ·
  exact fx_fin (r := (.r0 (a1) (true) : instr_TargetR)) (fu := 4000) (orc := (orcw [(0, true)] [] [] [] [])) (live := []) (u := Value.tuple #[vi a1, vT]) (bl := []) (ob := [((a0 == (8 : Int)), true)]) (by kernel_rfl) (oT obs_nil) rfl (by decide) (by rfl) rr trivial
 ·
  refine fx_ite (fun g1 => ?_) (fun g1 => ?_)
  ·
   exact fx_fin (r := (.r0 (a2) (true) : instr_TargetR)) (fu := 4000) (orc := (orcw [(0, false), (1, true)] [] [] [] [])) (live := []) (u := Value.tuple #[vi a2, vT]) (bl := []) (ob := [((a0 == (9 : Int)), true), ((a0 == (8 : Int)), false)]) (by kernel_rfl) (oT <| oF obs_nil) rfl (by decide) (by rfl) rr trivial
  ·
   exact fx_fin (r := (.r0 ((0 : Int)) (false) : instr_TargetR)) (fu := 4000) (orc := (orcw [(0, false), (1, false)] [] [] [] [])) (live := []) (u := Value.tuple #[v0, vf]) (bl := []) (ob := [((a0 == (9 : Int)), false), ((a0 == (8 : Int)), false)]) (by kernel_rfl) (oF <| oF obs_nil) rfl (by decide) (by rfl) rr trivial

theorem instr_Target_spec (a0 a1 a2 a3 : Int) (N : Nat) (r : instr_TargetR) (h : instr_Target a0 a1 a2 a3 N = some r) : LSpec Try.prog 13 #[Value.agg #[vi a0, vi a1, vi a2, vi a3]] [] (instr_TargetV a0 a1 a2 a3 r) (instr_TargetPo a0 a1 a2 a3 r) :=
 fx_spec fit_Pp Try.func13 (by kernel_rfl) (by kernel_rfl) (fun r => by cases r <;> exact le_far _ rfl) (instr_Target_fx a0 a1 a2 a3 N) h

noncomputable def instr_TargetT0 (a0 a1 a2 a3 w0 : Int) (w1 : Bool) (n : Nat) : Told := .call [] (Value.tuple #[vi w0, Value.bool w1]) [] 0
def instr_TargetP0 (A : Array Value) (a0 a1 a2 a3 w0 : Int) (w1 : Bool) (n : Nat) : Prop := CallSpec Try.prog 13 A [] (Value.tuple #[vi w0, Value.bool w1]) [] n 0

theorem instr_TargetC0 (A : Array Value) (a0 a1 a2 a3 w0 : Int) (w1 : Bool) (N : Nat) (h : instr_Target a0 a1 a2 a3 N = some (.r0 w0 w1)) (n : Nat) (hA : A = #[Value.agg #[vi a0, vi a1, vi a2, vi a3]]) (hnd : ([] : List Nat).Nodup) (hlt : ∀ k ∈ ([] : List Nat), k < n) : instr_TargetP0 A a0 a1 a2 a3 w0 w1  n :=
 cs_args hA (LSpec.callL (show LSpec Try.prog 13 #[Value.agg #[vi a0, vi a1, vi a2, vi a3]] [] (Value.tuple #[vi w0, Value.bool w1]) [] from instr_Target_spec a0 a1 a2 a3 N _ h) [] n [] rfl hnd hlt (show 0 ≤ 0 from by decide) (show ∀ j ∈ ([] : List Nat), j < 0 from by decide) (by rfl) trivial (by rfl) trivial trivial rfl rfl rfl rfl rfl)

noncomputable def instr_kindV (a0 : Int) : instr_kindR → Value
 | .r0 => Value.agg #[Value.string ⟨#[]⟩, v0, v0, v0]
 | .r1 => Value.agg #[Value.string ⟨#[99, 111, 110, 115, 116]⟩, vi (1 : Int), vi (6 : Int), v0]
 | .r2 => Value.agg #[Value.string ⟨#[110, 105, 108]⟩, vi (1 : Int), v0, v0]
 | .r3 => Value.agg #[Value.string ⟨#[109, 111, 118, 101]⟩, vi (1 : Int), vi (1 : Int), v0]
 | .r4 => Value.agg #[Value.string ⟨#[97, 100, 100]⟩, vi (1 : Int), vi (1 : Int), vi (1 : Int)]
 | .r5 => Value.agg #[Value.string ⟨#[115, 117, 98]⟩, vi (1 : Int), vi (1 : Int), vi (1 : Int)]
 | .r6 => Value.agg #[Value.string ⟨#[108, 101, 115, 115]⟩, vi (1 : Int), vi (1 : Int), vi (1 : Int)]
 | .r7 => Value.agg #[Value.string ⟨#[101, 113]⟩, vi (1 : Int), vi (1 : Int), vi (1 : Int)]
 | .r8 => Value.agg #[Value.string ⟨#[106, 117, 109, 112]⟩, vi (4 : Int), v0, v0]
 | .r9 => Value.agg #[Value.string ⟨#[106, 117, 109, 112, 122]⟩, vi (1 : Int), vi (4 : Int), v0]
 | .r10 => Value.agg #[Value.string ⟨#[114, 111, 111, 116]⟩, vi (1 : Int), v0, v0]
 | .r11 => Value.agg #[Value.string ⟨#[110, 101, 119]⟩, vi (1 : Int), vi (3 : Int), vi (5 : Int)]
 | .r12 => Value.agg #[Value.string ⟨#[102, 114, 101, 101]⟩, vi (1 : Int), v0, v0]
 | .r13 => Value.agg #[Value.string ⟨#[103, 101, 116]⟩, vi (1 : Int), vi (1 : Int), vi (2 : Int)]
 | .r14 => Value.agg #[Value.string ⟨#[115, 101, 116]⟩, vi (1 : Int), vi (2 : Int), vi (1 : Int)]
 | .r15 => Value.agg #[Value.string ⟨#[98, 101, 103, 105, 110]⟩, v0, v0, v0]
 | .r16 => Value.agg #[Value.string ⟨#[101, 108, 115, 101]⟩, v0, v0, v0]
 | .r17 => Value.agg #[Value.string ⟨#[101, 110, 100]⟩, v0, v0, v0]
 | .r18 => Value.agg #[Value.string ⟨#[114, 101, 116, 114, 121]⟩, v0, v0, v0]
 | .r19 => Value.agg #[Value.string ⟨#[101, 109, 105, 116]⟩, vi (1 : Int), v0, v0]
 | .r20 => Value.agg #[Value.string ⟨#[104, 97, 108, 116]⟩, v0, v0, v0]
noncomputable def instr_kindPo (a0 : Int) : instr_kindR → List (Option AObj)
 | .r0 => []
 | .r1 => []
 | .r2 => []
 | .r3 => []
 | .r4 => []
 | .r5 => []
 | .r6 => []
 | .r7 => []
 | .r8 => []
 | .r9 => []
 | .r10 => []
 | .r11 => []
 | .r12 => []
 | .r13 => []
 | .r14 => []
 | .r15 => []
 | .r16 => []
 | .r17 => []
 | .r18 => []
 | .r19 => []
 | .r20 => []

theorem instr_kind_fx (a0 : Int) (N : Nat) : Fx Try.prog ext_Pp Try.f19 [] #[vi a0] (instr_kindV a0) (instr_kindPo a0) (instr_kind a0 N) := by
 unfold instr_kind
 refine fx_ite (fun g0 => ?_) (fun g0 => ?_)
 ·
  exact fx_fin (r := (.r0 : instr_kindR)) (fu := 4000) (orc := (orcw [(0, true)] [] [] [] [])) (live := []) (u := Value.agg #[Value.string ⟨#[]⟩, v0, v0, v0]) (bl := []) (ob := [((decide (a0 < (0 : Int))), true)]) (by kernel_rfl) (oY obs_nil) rfl (by decide) (by rfl) rr trivial
 ·
  refine fx_ite (fun g1 => ?_) (fun g1 => ?_)
  ·
   exact fx_fin (r := (.r0 : instr_kindR)) (fu := 4000) (orc := (orcw [(0, false), (1, true)] [] [] [] [])) (live := []) (u := Value.agg #[Value.string ⟨#[]⟩, v0, v0, v0]) (bl := []) (ob := [((decide (a0 ≥ (21 : Int))), true), ((decide (a0 < (0 : Int))), false)]) (by kernel_rfl) (oY <| oN obs_nil) rfl (by decide) (by rfl) rr trivial
  ·
   refine fx_ite (fun g2 => ?_) (fun g2 => ?_)
   ·
    exact fx_fin (r := (.r0 : instr_kindR)) (fu := 4000) (orc := (orcw [(0, false), (1, false)] [] [(0, 0)] [] [])) (live := []) (u := Value.agg #[Value.string ⟨#[]⟩, v0, v0, v0]) (bl := []) (ob := [(Nat.blt 0 21, true), (a0 == Int.ofNat 0, true), ((decide (a0 ≥ (21 : Int))), false), ((decide (a0 < (0 : Int))), false)]) (by kernel_rfl) (oB <| obs_cons (beq_iff_eq.2 (show _ = ((0 : Nat) : Int) from by omega)) <| oN <| oN obs_nil) rfl (by decide) (by rfl) rr trivial
   ·
    refine fx_ite (fun g3 => ?_) (fun g3 => ?_)
    ·
     exact fx_fin (r := (.r1 : instr_kindR)) (fu := 4000) (orc := (orcw [(0, false), (1, false)] [] [(0, 1)] [] [])) (live := []) (u := Value.agg #[Value.string ⟨#[99, 111, 110, 115, 116]⟩, vi (1 : Int), vi (6 : Int), v0]) (bl := []) (ob := [(Nat.blt 1 21, true), (a0 == Int.ofNat 1, true), ((decide (a0 ≥ (21 : Int))), false), ((decide (a0 < (0 : Int))), false)]) (by kernel_rfl) (oB <| obs_cons (beq_iff_eq.2 (show _ = ((1 : Nat) : Int) from by omega)) <| oN <| oN obs_nil) rfl (by decide) (by rfl) rr trivial
    ·
     refine fx_ite (fun g4 => ?_) (fun g4 => ?_)
     ·
      exact fx_fin (r := (.r2 : instr_kindR)) (fu := 4000) (orc := (orcw [(0, false), (1, false)] [] [(0, 2)] [] [])) (live := []) (u := Value.agg #[Value.string ⟨#[110, 105, 108]⟩, vi (1 : Int), v0, v0]) (bl := []) (ob := [(Nat.blt 2 21, true), (a0 == Int.ofNat 2, true), ((decide (a0 ≥ (21 : Int))), false), ((decide (a0 < (0 : Int))), false)]) (by kernel_rfl) (oB <| obs_cons (beq_iff_eq.2 (show _ = ((2 : Nat) : Int) from by omega)) <| oN <| oN obs_nil) rfl (by decide) (by rfl) rr trivial
     ·
      refine fx_ite (fun g5 => ?_) (fun g5 => ?_)
      ·
       exact fx_fin (r := (.r3 : instr_kindR)) (fu := 4000) (orc := (orcw [(0, false), (1, false)] [] [(0, 3)] [] [])) (live := []) (u := Value.agg #[Value.string ⟨#[109, 111, 118, 101]⟩, vi (1 : Int), vi (1 : Int), v0]) (bl := []) (ob := [(Nat.blt 3 21, true), (a0 == Int.ofNat 3, true), ((decide (a0 ≥ (21 : Int))), false), ((decide (a0 < (0 : Int))), false)]) (by kernel_rfl) (oB <| obs_cons (beq_iff_eq.2 (show _ = ((3 : Nat) : Int) from by omega)) <| oN <| oN obs_nil) rfl (by decide) (by rfl) rr trivial
      ·
       refine fx_ite (fun g6 => ?_) (fun g6 => ?_)
       ·
        exact fx_fin (r := (.r4 : instr_kindR)) (fu := 4000) (orc := (orcw [(0, false), (1, false)] [] [(0, 4)] [] [])) (live := []) (u := Value.agg #[Value.string ⟨#[97, 100, 100]⟩, vi (1 : Int), vi (1 : Int), vi (1 : Int)]) (bl := []) (ob := [(Nat.blt 4 21, true), (a0 == Int.ofNat 4, true), ((decide (a0 ≥ (21 : Int))), false), ((decide (a0 < (0 : Int))), false)]) (by kernel_rfl) (oB <| obs_cons (beq_iff_eq.2 (show _ = ((4 : Nat) : Int) from by omega)) <| oN <| oN obs_nil) rfl (by decide) (by rfl) rr trivial
       ·
        refine fx_ite (fun g7 => ?_) (fun g7 => ?_)
        ·
         exact fx_fin (r := (.r5 : instr_kindR)) (fu := 4000) (orc := (orcw [(0, false), (1, false)] [] [(0, 5)] [] [])) (live := []) (u := Value.agg #[Value.string ⟨#[115, 117, 98]⟩, vi (1 : Int), vi (1 : Int), vi (1 : Int)]) (bl := []) (ob := [(Nat.blt 5 21, true), (a0 == Int.ofNat 5, true), ((decide (a0 ≥ (21 : Int))), false), ((decide (a0 < (0 : Int))), false)]) (by kernel_rfl) (oB <| obs_cons (beq_iff_eq.2 (show _ = ((5 : Nat) : Int) from by omega)) <| oN <| oN obs_nil) rfl (by decide) (by rfl) rr trivial
        ·
         refine fx_ite (fun g8 => ?_) (fun g8 => ?_)
         ·
          exact fx_fin (r := (.r6 : instr_kindR)) (fu := 4000) (orc := (orcw [(0, false), (1, false)] [] [(0, 6)] [] [])) (live := []) (u := Value.agg #[Value.string ⟨#[108, 101, 115, 115]⟩, vi (1 : Int), vi (1 : Int), vi (1 : Int)]) (bl := []) (ob := [(Nat.blt 6 21, true), (a0 == Int.ofNat 6, true), ((decide (a0 ≥ (21 : Int))), false), ((decide (a0 < (0 : Int))), false)]) (by kernel_rfl) (oB <| obs_cons (beq_iff_eq.2 (show _ = ((6 : Nat) : Int) from by omega)) <| oN <| oN obs_nil) rfl (by decide) (by rfl) rr trivial
         ·
          refine fx_ite (fun g9 => ?_) (fun g9 => ?_)
          ·
           exact fx_fin (r := (.r7 : instr_kindR)) (fu := 4000) (orc := (orcw [(0, false), (1, false)] [] [(0, 7)] [] [])) (live := []) (u := Value.agg #[Value.string ⟨#[101, 113]⟩, vi (1 : Int), vi (1 : Int), vi (1 : Int)]) (bl := []) (ob := [(Nat.blt 7 21, true), (a0 == Int.ofNat 7, true), ((decide (a0 ≥ (21 : Int))), false), ((decide (a0 < (0 : Int))), false)]) (by kernel_rfl) (oB <| obs_cons (beq_iff_eq.2 (show _ = ((7 : Nat) : Int) from by omega)) <| oN <| oN obs_nil) rfl (by decide) (by rfl) rr trivial
          ·
           refine fx_ite (fun g10 => ?_) (fun g10 => ?_)
           ·
            exact fx_fin (r := (.r8 : instr_kindR)) (fu := 4000) (orc := (orcw [(0, false), (1, false)] [] [(0, 8)] [] [])) (live := []) (u := Value.agg #[Value.string ⟨#[106, 117, 109, 112]⟩, vi (4 : Int), v0, v0]) (bl := []) (ob := [(Nat.blt 8 21, true), (a0 == Int.ofNat 8, true), ((decide (a0 ≥ (21 : Int))), false), ((decide (a0 < (0 : Int))), false)]) (by kernel_rfl) (oB <| obs_cons (beq_iff_eq.2 (show _ = ((8 : Nat) : Int) from by omega)) <| oN <| oN obs_nil) rfl (by decide) (by rfl) rr trivial
           ·
            refine fx_ite (fun g11 => ?_) (fun g11 => ?_)
            ·
             exact fx_fin (r := (.r9 : instr_kindR)) (fu := 4000) (orc := (orcw [(0, false), (1, false)] [] [(0, 9)] [] [])) (live := []) (u := Value.agg #[Value.string ⟨#[106, 117, 109, 112, 122]⟩, vi (1 : Int), vi (4 : Int), v0]) (bl := []) (ob := [(Nat.blt 9 21, true), (a0 == Int.ofNat 9, true), ((decide (a0 ≥ (21 : Int))), false), ((decide (a0 < (0 : Int))), false)]) (by kernel_rfl) (oB <| obs_cons (beq_iff_eq.2 (show _ = ((9 : Nat) : Int) from by omega)) <| oN <| oN obs_nil) rfl (by decide) (by rfl) rr trivial
            ·
             refine fx_ite (fun g12 => ?_) (fun g12 => ?_)
             ·
              exact fx_fin (r := (.r10 : instr_kindR)) (fu := 4000) (orc := (orcw [(0, false), (1, false)] [] [(0, 10)] [] [])) (live := []) (u := Value.agg #[Value.string ⟨#[114, 111, 111, 116]⟩, vi (1 : Int), v0, v0]) (bl := []) (ob := [(Nat.blt 10 21, true), (a0 == Int.ofNat 10, true), ((decide (a0 ≥ (21 : Int))), false), ((decide (a0 < (0 : Int))), false)]) (by kernel_rfl) (oB <| obs_cons (beq_iff_eq.2 (show _ = ((10 : Nat) : Int) from by omega)) <| oN <| oN obs_nil) rfl (by decide) (by rfl) rr trivial
             ·
              refine fx_ite (fun g13 => ?_) (fun g13 => ?_)
              ·
               exact fx_fin (r := (.r11 : instr_kindR)) (fu := 4000) (orc := (orcw [(0, false), (1, false)] [] [(0, 11)] [] [])) (live := []) (u := Value.agg #[Value.string ⟨#[110, 101, 119]⟩, vi (1 : Int), vi (3 : Int), vi (5 : Int)]) (bl := []) (ob := [(Nat.blt 11 21, true), (a0 == Int.ofNat 11, true), ((decide (a0 ≥ (21 : Int))), false), ((decide (a0 < (0 : Int))), false)]) (by kernel_rfl) (oB <| obs_cons (beq_iff_eq.2 (show _ = ((11 : Nat) : Int) from by omega)) <| oN <| oN obs_nil) rfl (by decide) (by rfl) rr trivial
              ·
               refine fx_ite (fun g14 => ?_) (fun g14 => ?_)
               ·
                exact fx_fin (r := (.r12 : instr_kindR)) (fu := 4000) (orc := (orcw [(0, false), (1, false)] [] [(0, 12)] [] [])) (live := []) (u := Value.agg #[Value.string ⟨#[102, 114, 101, 101]⟩, vi (1 : Int), v0, v0]) (bl := []) (ob := [(Nat.blt 12 21, true), (a0 == Int.ofNat 12, true), ((decide (a0 ≥ (21 : Int))), false), ((decide (a0 < (0 : Int))), false)]) (by kernel_rfl) (oB <| obs_cons (beq_iff_eq.2 (show _ = ((12 : Nat) : Int) from by omega)) <| oN <| oN obs_nil) rfl (by decide) (by rfl) rr trivial
               ·
                refine fx_ite (fun g15 => ?_) (fun g15 => ?_)
                ·
                 exact fx_fin (r := (.r13 : instr_kindR)) (fu := 4000) (orc := (orcw [(0, false), (1, false)] [] [(0, 13)] [] [])) (live := []) (u := Value.agg #[Value.string ⟨#[103, 101, 116]⟩, vi (1 : Int), vi (1 : Int), vi (2 : Int)]) (bl := []) (ob := [(Nat.blt 13 21, true), (a0 == Int.ofNat 13, true), ((decide (a0 ≥ (21 : Int))), false), ((decide (a0 < (0 : Int))), false)]) (by kernel_rfl) (oB <| obs_cons (beq_iff_eq.2 (show _ = ((13 : Nat) : Int) from by omega)) <| oN <| oN obs_nil) rfl (by decide) (by rfl) rr trivial
                ·
                 refine fx_ite (fun g16 => ?_) (fun g16 => ?_)
                 ·
                  exact fx_fin (r := (.r14 : instr_kindR)) (fu := 4000) (orc := (orcw [(0, false), (1, false)] [] [(0, 14)] [] [])) (live := []) (u := Value.agg #[Value.string ⟨#[115, 101, 116]⟩, vi (1 : Int), vi (2 : Int), vi (1 : Int)]) (bl := []) (ob := [(Nat.blt 14 21, true), (a0 == Int.ofNat 14, true), ((decide (a0 ≥ (21 : Int))), false), ((decide (a0 < (0 : Int))), false)]) (by kernel_rfl) (oB <| obs_cons (beq_iff_eq.2 (show _ = ((14 : Nat) : Int) from by omega)) <| oN <| oN obs_nil) rfl (by decide) (by rfl) rr trivial
                 ·
                  refine fx_ite (fun g17 => ?_) (fun g17 => ?_)
                  ·
                   exact fx_fin (r := (.r15 : instr_kindR)) (fu := 4000) (orc := (orcw [(0, false), (1, false)] [] [(0, 15)] [] [])) (live := []) (u := Value.agg #[Value.string ⟨#[98, 101, 103, 105, 110]⟩, v0, v0, v0]) (bl := []) (ob := [(Nat.blt 15 21, true), (a0 == Int.ofNat 15, true), ((decide (a0 ≥ (21 : Int))), false), ((decide (a0 < (0 : Int))), false)]) (by kernel_rfl) (oB <| obs_cons (beq_iff_eq.2 (show _ = ((15 : Nat) : Int) from by omega)) <| oN <| oN obs_nil) rfl (by decide) (by rfl) rr trivial
                  ·
                   refine fx_ite (fun g18 => ?_) (fun g18 => ?_)
                   ·
                    exact fx_fin (r := (.r16 : instr_kindR)) (fu := 4000) (orc := (orcw [(0, false), (1, false)] [] [(0, 16)] [] [])) (live := []) (u := Value.agg #[Value.string ⟨#[101, 108, 115, 101]⟩, v0, v0, v0]) (bl := []) (ob := [(Nat.blt 16 21, true), (a0 == Int.ofNat 16, true), ((decide (a0 ≥ (21 : Int))), false), ((decide (a0 < (0 : Int))), false)]) (by kernel_rfl) (oB <| obs_cons (beq_iff_eq.2 (show _ = ((16 : Nat) : Int) from by omega)) <| oN <| oN obs_nil) rfl (by decide) (by rfl) rr trivial
                   ·
                    refine fx_ite (fun g19 => ?_) (fun g19 => ?_)
                    ·
                     exact fx_fin (r := (.r17 : instr_kindR)) (fu := 4000) (orc := (orcw [(0, false), (1, false)] [] [(0, 17)] [] [])) (live := []) (u := Value.agg #[Value.string ⟨#[101, 110, 100]⟩, v0, v0, v0]) (bl := []) (ob := [(Nat.blt 17 21, true), (a0 == Int.ofNat 17, true), ((decide (a0 ≥ (21 : Int))), false), ((decide (a0 < (0 : Int))), false)]) (by kernel_rfl) (oB <| obs_cons (beq_iff_eq.2 (show _ = ((17 : Nat) : Int) from by omega)) <| oN <| oN obs_nil) rfl (by decide) (by rfl) rr trivial
                    ·
                     refine fx_ite (fun g20 => ?_) (fun g20 => ?_)
                     ·
                      exact fx_fin (r := (.r18 : instr_kindR)) (fu := 4000) (orc := (orcw [(0, false), (1, false)] [] [(0, 18)] [] [])) (live := []) (u := Value.agg #[Value.string ⟨#[114, 101, 116, 114, 121]⟩, v0, v0, v0]) (bl := []) (ob := [(Nat.blt 18 21, true), (a0 == Int.ofNat 18, true), ((decide (a0 ≥ (21 : Int))), false), ((decide (a0 < (0 : Int))), false)]) (by kernel_rfl) (oB <| obs_cons (beq_iff_eq.2 (show _ = ((18 : Nat) : Int) from by omega)) <| oN <| oN obs_nil) rfl (by decide) (by rfl) rr trivial
                     ·
                      refine fx_ite (fun g21 => ?_) (fun g21 => ?_)
                      ·
                       exact fx_fin (r := (.r19 : instr_kindR)) (fu := 4000) (orc := (orcw [(0, false), (1, false)] [] [(0, 19)] [] [])) (live := []) (u := Value.agg #[Value.string ⟨#[101, 109, 105, 116]⟩, vi (1 : Int), v0, v0]) (bl := []) (ob := [(Nat.blt 19 21, true), (a0 == Int.ofNat 19, true), ((decide (a0 ≥ (21 : Int))), false), ((decide (a0 < (0 : Int))), false)]) (by kernel_rfl) (oB <| obs_cons (beq_iff_eq.2 (show _ = ((19 : Nat) : Int) from by omega)) <| oN <| oN obs_nil) rfl (by decide) (by rfl) rr trivial
                      ·
                       exact fx_fin (r := (.r20 : instr_kindR)) (fu := 4000) (orc := (orcw [(0, false), (1, false)] [] [(0, 20)] [] [])) (live := []) (u := Value.agg #[Value.string ⟨#[104, 97, 108, 116]⟩, v0, v0, v0]) (bl := []) (ob := [(Nat.blt 20 21, true), (a0 == Int.ofNat 20, true), ((decide (a0 ≥ (21 : Int))), false), ((decide (a0 < (0 : Int))), false)]) (by kernel_rfl) (oB <| obs_cons (beq_iff_eq.2 (show _ = ((20 : Nat) : Int) from by omega)) <| oN <| oN obs_nil) rfl (by decide) (by rfl) rr trivial

theorem instr_kind_spec (a0 : Int) (N : Nat) (r : instr_kindR) (h : instr_kind a0 N = some r) : LSpec Try.prog 19 #[vi a0] [] (instr_kindV a0 r) (instr_kindPo a0 r) :=
 fx_spec fit_Pp Try.func19 (by kernel_rfl) (by kernel_rfl) (fun r => by cases r <;> exact le_far _ rfl) (instr_kind_fx a0 N) h

noncomputable def instr_kindT0 (a0 : Int) (n : Nat) : Told := .call [] (Value.agg #[Value.string ⟨#[]⟩, v0, v0, v0]) [] 0
def instr_kindP0 (A : Array Value) (a0 : Int) (n : Nat) : Prop := CallSpec Try.prog 19 A [] (Value.agg #[Value.string ⟨#[]⟩, v0, v0, v0]) [] n 0

theorem instr_kindC0 (A : Array Value) (a0 : Int) (N : Nat) (h : instr_kind a0 N = some (.r0)) (n : Nat) (hA : A = #[vi a0]) (hnd : ([] : List Nat).Nodup) (hlt : ∀ k ∈ ([] : List Nat), k < n) : instr_kindP0 A a0  n :=
 cs_args hA (LSpec.callL (show LSpec Try.prog 19 #[vi a0] [] (Value.agg #[Value.string ⟨#[]⟩, v0, v0, v0]) [] from instr_kind_spec a0 N _ h) [] n [] rfl hnd hlt (show 0 ≤ 0 from by decide) (show ∀ j ∈ ([] : List Nat), j < 0 from by decide) (by rfl) trivial (by rfl) trivial trivial rfl rfl rfl rfl rfl)

noncomputable def instr_kindT1 (a0 : Int) (n : Nat) : Told := .call [] (Value.agg #[Value.string ⟨#[99, 111, 110, 115, 116]⟩, vi (1 : Int), vi (6 : Int), v0]) [] 0
def instr_kindP1 (A : Array Value) (a0 : Int) (n : Nat) : Prop := CallSpec Try.prog 19 A [] (Value.agg #[Value.string ⟨#[99, 111, 110, 115, 116]⟩, vi (1 : Int), vi (6 : Int), v0]) [] n 0

theorem instr_kindC1 (A : Array Value) (a0 : Int) (N : Nat) (h : instr_kind a0 N = some (.r1)) (n : Nat) (hA : A = #[vi a0]) (hnd : ([] : List Nat).Nodup) (hlt : ∀ k ∈ ([] : List Nat), k < n) : instr_kindP1 A a0  n :=
 cs_args hA (LSpec.callL (show LSpec Try.prog 19 #[vi a0] [] (Value.agg #[Value.string ⟨#[99, 111, 110, 115, 116]⟩, vi (1 : Int), vi (6 : Int), v0]) [] from instr_kind_spec a0 N _ h) [] n [] rfl hnd hlt (show 0 ≤ 0 from by decide) (show ∀ j ∈ ([] : List Nat), j < 0 from by decide) (by rfl) trivial (by rfl) trivial trivial rfl rfl rfl rfl rfl)

noncomputable def instr_kindT2 (a0 : Int) (n : Nat) : Told := .call [] (Value.agg #[Value.string ⟨#[110, 105, 108]⟩, vi (1 : Int), v0, v0]) [] 0
def instr_kindP2 (A : Array Value) (a0 : Int) (n : Nat) : Prop := CallSpec Try.prog 19 A [] (Value.agg #[Value.string ⟨#[110, 105, 108]⟩, vi (1 : Int), v0, v0]) [] n 0

theorem instr_kindC2 (A : Array Value) (a0 : Int) (N : Nat) (h : instr_kind a0 N = some (.r2)) (n : Nat) (hA : A = #[vi a0]) (hnd : ([] : List Nat).Nodup) (hlt : ∀ k ∈ ([] : List Nat), k < n) : instr_kindP2 A a0  n :=
 cs_args hA (LSpec.callL (show LSpec Try.prog 19 #[vi a0] [] (Value.agg #[Value.string ⟨#[110, 105, 108]⟩, vi (1 : Int), v0, v0]) [] from instr_kind_spec a0 N _ h) [] n [] rfl hnd hlt (show 0 ≤ 0 from by decide) (show ∀ j ∈ ([] : List Nat), j < 0 from by decide) (by rfl) trivial (by rfl) trivial trivial rfl rfl rfl rfl rfl)

noncomputable def instr_kindT3 (a0 : Int) (n : Nat) : Told := .call [] (Value.agg #[Value.string ⟨#[109, 111, 118, 101]⟩, vi (1 : Int), vi (1 : Int), v0]) [] 0
def instr_kindP3 (A : Array Value) (a0 : Int) (n : Nat) : Prop := CallSpec Try.prog 19 A [] (Value.agg #[Value.string ⟨#[109, 111, 118, 101]⟩, vi (1 : Int), vi (1 : Int), v0]) [] n 0

theorem instr_kindC3 (A : Array Value) (a0 : Int) (N : Nat) (h : instr_kind a0 N = some (.r3)) (n : Nat) (hA : A = #[vi a0]) (hnd : ([] : List Nat).Nodup) (hlt : ∀ k ∈ ([] : List Nat), k < n) : instr_kindP3 A a0  n :=
 cs_args hA (LSpec.callL (show LSpec Try.prog 19 #[vi a0] [] (Value.agg #[Value.string ⟨#[109, 111, 118, 101]⟩, vi (1 : Int), vi (1 : Int), v0]) [] from instr_kind_spec a0 N _ h) [] n [] rfl hnd hlt (show 0 ≤ 0 from by decide) (show ∀ j ∈ ([] : List Nat), j < 0 from by decide) (by rfl) trivial (by rfl) trivial trivial rfl rfl rfl rfl rfl)

noncomputable def instr_kindT4 (a0 : Int) (n : Nat) : Told := .call [] (Value.agg #[Value.string ⟨#[97, 100, 100]⟩, vi (1 : Int), vi (1 : Int), vi (1 : Int)]) [] 0
def instr_kindP4 (A : Array Value) (a0 : Int) (n : Nat) : Prop := CallSpec Try.prog 19 A [] (Value.agg #[Value.string ⟨#[97, 100, 100]⟩, vi (1 : Int), vi (1 : Int), vi (1 : Int)]) [] n 0

theorem instr_kindC4 (A : Array Value) (a0 : Int) (N : Nat) (h : instr_kind a0 N = some (.r4)) (n : Nat) (hA : A = #[vi a0]) (hnd : ([] : List Nat).Nodup) (hlt : ∀ k ∈ ([] : List Nat), k < n) : instr_kindP4 A a0  n :=
 cs_args hA (LSpec.callL (show LSpec Try.prog 19 #[vi a0] [] (Value.agg #[Value.string ⟨#[97, 100, 100]⟩, vi (1 : Int), vi (1 : Int), vi (1 : Int)]) [] from instr_kind_spec a0 N _ h) [] n [] rfl hnd hlt (show 0 ≤ 0 from by decide) (show ∀ j ∈ ([] : List Nat), j < 0 from by decide) (by rfl) trivial (by rfl) trivial trivial rfl rfl rfl rfl rfl)

noncomputable def instr_kindT5 (a0 : Int) (n : Nat) : Told := .call [] (Value.agg #[Value.string ⟨#[115, 117, 98]⟩, vi (1 : Int), vi (1 : Int), vi (1 : Int)]) [] 0
def instr_kindP5 (A : Array Value) (a0 : Int) (n : Nat) : Prop := CallSpec Try.prog 19 A [] (Value.agg #[Value.string ⟨#[115, 117, 98]⟩, vi (1 : Int), vi (1 : Int), vi (1 : Int)]) [] n 0

theorem instr_kindC5 (A : Array Value) (a0 : Int) (N : Nat) (h : instr_kind a0 N = some (.r5)) (n : Nat) (hA : A = #[vi a0]) (hnd : ([] : List Nat).Nodup) (hlt : ∀ k ∈ ([] : List Nat), k < n) : instr_kindP5 A a0  n :=
 cs_args hA (LSpec.callL (show LSpec Try.prog 19 #[vi a0] [] (Value.agg #[Value.string ⟨#[115, 117, 98]⟩, vi (1 : Int), vi (1 : Int), vi (1 : Int)]) [] from instr_kind_spec a0 N _ h) [] n [] rfl hnd hlt (show 0 ≤ 0 from by decide) (show ∀ j ∈ ([] : List Nat), j < 0 from by decide) (by rfl) trivial (by rfl) trivial trivial rfl rfl rfl rfl rfl)

noncomputable def instr_kindT6 (a0 : Int) (n : Nat) : Told := .call [] (Value.agg #[Value.string ⟨#[108, 101, 115, 115]⟩, vi (1 : Int), vi (1 : Int), vi (1 : Int)]) [] 0
def instr_kindP6 (A : Array Value) (a0 : Int) (n : Nat) : Prop := CallSpec Try.prog 19 A [] (Value.agg #[Value.string ⟨#[108, 101, 115, 115]⟩, vi (1 : Int), vi (1 : Int), vi (1 : Int)]) [] n 0

theorem instr_kindC6 (A : Array Value) (a0 : Int) (N : Nat) (h : instr_kind a0 N = some (.r6)) (n : Nat) (hA : A = #[vi a0]) (hnd : ([] : List Nat).Nodup) (hlt : ∀ k ∈ ([] : List Nat), k < n) : instr_kindP6 A a0  n :=
 cs_args hA (LSpec.callL (show LSpec Try.prog 19 #[vi a0] [] (Value.agg #[Value.string ⟨#[108, 101, 115, 115]⟩, vi (1 : Int), vi (1 : Int), vi (1 : Int)]) [] from instr_kind_spec a0 N _ h) [] n [] rfl hnd hlt (show 0 ≤ 0 from by decide) (show ∀ j ∈ ([] : List Nat), j < 0 from by decide) (by rfl) trivial (by rfl) trivial trivial rfl rfl rfl rfl rfl)

noncomputable def instr_kindT7 (a0 : Int) (n : Nat) : Told := .call [] (Value.agg #[Value.string ⟨#[101, 113]⟩, vi (1 : Int), vi (1 : Int), vi (1 : Int)]) [] 0
def instr_kindP7 (A : Array Value) (a0 : Int) (n : Nat) : Prop := CallSpec Try.prog 19 A [] (Value.agg #[Value.string ⟨#[101, 113]⟩, vi (1 : Int), vi (1 : Int), vi (1 : Int)]) [] n 0

theorem instr_kindC7 (A : Array Value) (a0 : Int) (N : Nat) (h : instr_kind a0 N = some (.r7)) (n : Nat) (hA : A = #[vi a0]) (hnd : ([] : List Nat).Nodup) (hlt : ∀ k ∈ ([] : List Nat), k < n) : instr_kindP7 A a0  n :=
 cs_args hA (LSpec.callL (show LSpec Try.prog 19 #[vi a0] [] (Value.agg #[Value.string ⟨#[101, 113]⟩, vi (1 : Int), vi (1 : Int), vi (1 : Int)]) [] from instr_kind_spec a0 N _ h) [] n [] rfl hnd hlt (show 0 ≤ 0 from by decide) (show ∀ j ∈ ([] : List Nat), j < 0 from by decide) (by rfl) trivial (by rfl) trivial trivial rfl rfl rfl rfl rfl)

noncomputable def instr_kindT8 (a0 : Int) (n : Nat) : Told := .call [] (Value.agg #[Value.string ⟨#[106, 117, 109, 112]⟩, vi (4 : Int), v0, v0]) [] 0
def instr_kindP8 (A : Array Value) (a0 : Int) (n : Nat) : Prop := CallSpec Try.prog 19 A [] (Value.agg #[Value.string ⟨#[106, 117, 109, 112]⟩, vi (4 : Int), v0, v0]) [] n 0

theorem instr_kindC8 (A : Array Value) (a0 : Int) (N : Nat) (h : instr_kind a0 N = some (.r8)) (n : Nat) (hA : A = #[vi a0]) (hnd : ([] : List Nat).Nodup) (hlt : ∀ k ∈ ([] : List Nat), k < n) : instr_kindP8 A a0  n :=
 cs_args hA (LSpec.callL (show LSpec Try.prog 19 #[vi a0] [] (Value.agg #[Value.string ⟨#[106, 117, 109, 112]⟩, vi (4 : Int), v0, v0]) [] from instr_kind_spec a0 N _ h) [] n [] rfl hnd hlt (show 0 ≤ 0 from by decide) (show ∀ j ∈ ([] : List Nat), j < 0 from by decide) (by rfl) trivial (by rfl) trivial trivial rfl rfl rfl rfl rfl)

noncomputable def instr_kindT9 (a0 : Int) (n : Nat) : Told := .call [] (Value.agg #[Value.string ⟨#[106, 117, 109, 112, 122]⟩, vi (1 : Int), vi (4 : Int), v0]) [] 0
def instr_kindP9 (A : Array Value) (a0 : Int) (n : Nat) : Prop := CallSpec Try.prog 19 A [] (Value.agg #[Value.string ⟨#[106, 117, 109, 112, 122]⟩, vi (1 : Int), vi (4 : Int), v0]) [] n 0

theorem instr_kindC9 (A : Array Value) (a0 : Int) (N : Nat) (h : instr_kind a0 N = some (.r9)) (n : Nat) (hA : A = #[vi a0]) (hnd : ([] : List Nat).Nodup) (hlt : ∀ k ∈ ([] : List Nat), k < n) : instr_kindP9 A a0  n :=
 cs_args hA (LSpec.callL (show LSpec Try.prog 19 #[vi a0] [] (Value.agg #[Value.string ⟨#[106, 117, 109, 112, 122]⟩, vi (1 : Int), vi (4 : Int), v0]) [] from instr_kind_spec a0 N _ h) [] n [] rfl hnd hlt (show 0 ≤ 0 from by decide) (show ∀ j ∈ ([] : List Nat), j < 0 from by decide) (by rfl) trivial (by rfl) trivial trivial rfl rfl rfl rfl rfl)

noncomputable def instr_kindT10 (a0 : Int) (n : Nat) : Told := .call [] (Value.agg #[Value.string ⟨#[114, 111, 111, 116]⟩, vi (1 : Int), v0, v0]) [] 0
def instr_kindP10 (A : Array Value) (a0 : Int) (n : Nat) : Prop := CallSpec Try.prog 19 A [] (Value.agg #[Value.string ⟨#[114, 111, 111, 116]⟩, vi (1 : Int), v0, v0]) [] n 0

theorem instr_kindC10 (A : Array Value) (a0 : Int) (N : Nat) (h : instr_kind a0 N = some (.r10)) (n : Nat) (hA : A = #[vi a0]) (hnd : ([] : List Nat).Nodup) (hlt : ∀ k ∈ ([] : List Nat), k < n) : instr_kindP10 A a0  n :=
 cs_args hA (LSpec.callL (show LSpec Try.prog 19 #[vi a0] [] (Value.agg #[Value.string ⟨#[114, 111, 111, 116]⟩, vi (1 : Int), v0, v0]) [] from instr_kind_spec a0 N _ h) [] n [] rfl hnd hlt (show 0 ≤ 0 from by decide) (show ∀ j ∈ ([] : List Nat), j < 0 from by decide) (by rfl) trivial (by rfl) trivial trivial rfl rfl rfl rfl rfl)

noncomputable def instr_kindT11 (a0 : Int) (n : Nat) : Told := .call [] (Value.agg #[Value.string ⟨#[110, 101, 119]⟩, vi (1 : Int), vi (3 : Int), vi (5 : Int)]) [] 0
def instr_kindP11 (A : Array Value) (a0 : Int) (n : Nat) : Prop := CallSpec Try.prog 19 A [] (Value.agg #[Value.string ⟨#[110, 101, 119]⟩, vi (1 : Int), vi (3 : Int), vi (5 : Int)]) [] n 0

theorem instr_kindC11 (A : Array Value) (a0 : Int) (N : Nat) (h : instr_kind a0 N = some (.r11)) (n : Nat) (hA : A = #[vi a0]) (hnd : ([] : List Nat).Nodup) (hlt : ∀ k ∈ ([] : List Nat), k < n) : instr_kindP11 A a0  n :=
 cs_args hA (LSpec.callL (show LSpec Try.prog 19 #[vi a0] [] (Value.agg #[Value.string ⟨#[110, 101, 119]⟩, vi (1 : Int), vi (3 : Int), vi (5 : Int)]) [] from instr_kind_spec a0 N _ h) [] n [] rfl hnd hlt (show 0 ≤ 0 from by decide) (show ∀ j ∈ ([] : List Nat), j < 0 from by decide) (by rfl) trivial (by rfl) trivial trivial rfl rfl rfl rfl rfl)

noncomputable def instr_kindT12 (a0 : Int) (n : Nat) : Told := .call [] (Value.agg #[Value.string ⟨#[102, 114, 101, 101]⟩, vi (1 : Int), v0, v0]) [] 0
def instr_kindP12 (A : Array Value) (a0 : Int) (n : Nat) : Prop := CallSpec Try.prog 19 A [] (Value.agg #[Value.string ⟨#[102, 114, 101, 101]⟩, vi (1 : Int), v0, v0]) [] n 0

theorem instr_kindC12 (A : Array Value) (a0 : Int) (N : Nat) (h : instr_kind a0 N = some (.r12)) (n : Nat) (hA : A = #[vi a0]) (hnd : ([] : List Nat).Nodup) (hlt : ∀ k ∈ ([] : List Nat), k < n) : instr_kindP12 A a0  n :=
 cs_args hA (LSpec.callL (show LSpec Try.prog 19 #[vi a0] [] (Value.agg #[Value.string ⟨#[102, 114, 101, 101]⟩, vi (1 : Int), v0, v0]) [] from instr_kind_spec a0 N _ h) [] n [] rfl hnd hlt (show 0 ≤ 0 from by decide) (show ∀ j ∈ ([] : List Nat), j < 0 from by decide) (by rfl) trivial (by rfl) trivial trivial rfl rfl rfl rfl rfl)

noncomputable def instr_kindT13 (a0 : Int) (n : Nat) : Told := .call [] (Value.agg #[Value.string ⟨#[103, 101, 116]⟩, vi (1 : Int), vi (1 : Int), vi (2 : Int)]) [] 0
def instr_kindP13 (A : Array Value) (a0 : Int) (n : Nat) : Prop := CallSpec Try.prog 19 A [] (Value.agg #[Value.string ⟨#[103, 101, 116]⟩, vi (1 : Int), vi (1 : Int), vi (2 : Int)]) [] n 0

theorem instr_kindC13 (A : Array Value) (a0 : Int) (N : Nat) (h : instr_kind a0 N = some (.r13)) (n : Nat) (hA : A = #[vi a0]) (hnd : ([] : List Nat).Nodup) (hlt : ∀ k ∈ ([] : List Nat), k < n) : instr_kindP13 A a0  n :=
 cs_args hA (LSpec.callL (show LSpec Try.prog 19 #[vi a0] [] (Value.agg #[Value.string ⟨#[103, 101, 116]⟩, vi (1 : Int), vi (1 : Int), vi (2 : Int)]) [] from instr_kind_spec a0 N _ h) [] n [] rfl hnd hlt (show 0 ≤ 0 from by decide) (show ∀ j ∈ ([] : List Nat), j < 0 from by decide) (by rfl) trivial (by rfl) trivial trivial rfl rfl rfl rfl rfl)

noncomputable def instr_kindT14 (a0 : Int) (n : Nat) : Told := .call [] (Value.agg #[Value.string ⟨#[115, 101, 116]⟩, vi (1 : Int), vi (2 : Int), vi (1 : Int)]) [] 0
def instr_kindP14 (A : Array Value) (a0 : Int) (n : Nat) : Prop := CallSpec Try.prog 19 A [] (Value.agg #[Value.string ⟨#[115, 101, 116]⟩, vi (1 : Int), vi (2 : Int), vi (1 : Int)]) [] n 0

theorem instr_kindC14 (A : Array Value) (a0 : Int) (N : Nat) (h : instr_kind a0 N = some (.r14)) (n : Nat) (hA : A = #[vi a0]) (hnd : ([] : List Nat).Nodup) (hlt : ∀ k ∈ ([] : List Nat), k < n) : instr_kindP14 A a0  n :=
 cs_args hA (LSpec.callL (show LSpec Try.prog 19 #[vi a0] [] (Value.agg #[Value.string ⟨#[115, 101, 116]⟩, vi (1 : Int), vi (2 : Int), vi (1 : Int)]) [] from instr_kind_spec a0 N _ h) [] n [] rfl hnd hlt (show 0 ≤ 0 from by decide) (show ∀ j ∈ ([] : List Nat), j < 0 from by decide) (by rfl) trivial (by rfl) trivial trivial rfl rfl rfl rfl rfl)

noncomputable def instr_kindT15 (a0 : Int) (n : Nat) : Told := .call [] (Value.agg #[Value.string ⟨#[98, 101, 103, 105, 110]⟩, v0, v0, v0]) [] 0
def instr_kindP15 (A : Array Value) (a0 : Int) (n : Nat) : Prop := CallSpec Try.prog 19 A [] (Value.agg #[Value.string ⟨#[98, 101, 103, 105, 110]⟩, v0, v0, v0]) [] n 0

theorem instr_kindC15 (A : Array Value) (a0 : Int) (N : Nat) (h : instr_kind a0 N = some (.r15)) (n : Nat) (hA : A = #[vi a0]) (hnd : ([] : List Nat).Nodup) (hlt : ∀ k ∈ ([] : List Nat), k < n) : instr_kindP15 A a0  n :=
 cs_args hA (LSpec.callL (show LSpec Try.prog 19 #[vi a0] [] (Value.agg #[Value.string ⟨#[98, 101, 103, 105, 110]⟩, v0, v0, v0]) [] from instr_kind_spec a0 N _ h) [] n [] rfl hnd hlt (show 0 ≤ 0 from by decide) (show ∀ j ∈ ([] : List Nat), j < 0 from by decide) (by rfl) trivial (by rfl) trivial trivial rfl rfl rfl rfl rfl)

noncomputable def instr_kindT16 (a0 : Int) (n : Nat) : Told := .call [] (Value.agg #[Value.string ⟨#[101, 108, 115, 101]⟩, v0, v0, v0]) [] 0
def instr_kindP16 (A : Array Value) (a0 : Int) (n : Nat) : Prop := CallSpec Try.prog 19 A [] (Value.agg #[Value.string ⟨#[101, 108, 115, 101]⟩, v0, v0, v0]) [] n 0

theorem instr_kindC16 (A : Array Value) (a0 : Int) (N : Nat) (h : instr_kind a0 N = some (.r16)) (n : Nat) (hA : A = #[vi a0]) (hnd : ([] : List Nat).Nodup) (hlt : ∀ k ∈ ([] : List Nat), k < n) : instr_kindP16 A a0  n :=
 cs_args hA (LSpec.callL (show LSpec Try.prog 19 #[vi a0] [] (Value.agg #[Value.string ⟨#[101, 108, 115, 101]⟩, v0, v0, v0]) [] from instr_kind_spec a0 N _ h) [] n [] rfl hnd hlt (show 0 ≤ 0 from by decide) (show ∀ j ∈ ([] : List Nat), j < 0 from by decide) (by rfl) trivial (by rfl) trivial trivial rfl rfl rfl rfl rfl)

noncomputable def instr_kindT17 (a0 : Int) (n : Nat) : Told := .call [] (Value.agg #[Value.string ⟨#[101, 110, 100]⟩, v0, v0, v0]) [] 0
def instr_kindP17 (A : Array Value) (a0 : Int) (n : Nat) : Prop := CallSpec Try.prog 19 A [] (Value.agg #[Value.string ⟨#[101, 110, 100]⟩, v0, v0, v0]) [] n 0

theorem instr_kindC17 (A : Array Value) (a0 : Int) (N : Nat) (h : instr_kind a0 N = some (.r17)) (n : Nat) (hA : A = #[vi a0]) (hnd : ([] : List Nat).Nodup) (hlt : ∀ k ∈ ([] : List Nat), k < n) : instr_kindP17 A a0  n :=
 cs_args hA (LSpec.callL (show LSpec Try.prog 19 #[vi a0] [] (Value.agg #[Value.string ⟨#[101, 110, 100]⟩, v0, v0, v0]) [] from instr_kind_spec a0 N _ h) [] n [] rfl hnd hlt (show 0 ≤ 0 from by decide) (show ∀ j ∈ ([] : List Nat), j < 0 from by decide) (by rfl) trivial (by rfl) trivial trivial rfl rfl rfl rfl rfl)

noncomputable def instr_kindT18 (a0 : Int) (n : Nat) : Told := .call [] (Value.agg #[Value.string ⟨#[114, 101, 116, 114, 121]⟩, v0, v0, v0]) [] 0
def instr_kindP18 (A : Array Value) (a0 : Int) (n : Nat) : Prop := CallSpec Try.prog 19 A [] (Value.agg #[Value.string ⟨#[114, 101, 116, 114, 121]⟩, v0, v0, v0]) [] n 0

theorem instr_kindC18 (A : Array Value) (a0 : Int) (N : Nat) (h : instr_kind a0 N = some (.r18)) (n : Nat) (hA : A = #[vi a0]) (hnd : ([] : List Nat).Nodup) (hlt : ∀ k ∈ ([] : List Nat), k < n) : instr_kindP18 A a0  n :=
 cs_args hA (LSpec.callL (show LSpec Try.prog 19 #[vi a0] [] (Value.agg #[Value.string ⟨#[114, 101, 116, 114, 121]⟩, v0, v0, v0]) [] from instr_kind_spec a0 N _ h) [] n [] rfl hnd hlt (show 0 ≤ 0 from by decide) (show ∀ j ∈ ([] : List Nat), j < 0 from by decide) (by rfl) trivial (by rfl) trivial trivial rfl rfl rfl rfl rfl)

noncomputable def instr_kindT19 (a0 : Int) (n : Nat) : Told := .call [] (Value.agg #[Value.string ⟨#[101, 109, 105, 116]⟩, vi (1 : Int), v0, v0]) [] 0
def instr_kindP19 (A : Array Value) (a0 : Int) (n : Nat) : Prop := CallSpec Try.prog 19 A [] (Value.agg #[Value.string ⟨#[101, 109, 105, 116]⟩, vi (1 : Int), v0, v0]) [] n 0

theorem instr_kindC19 (A : Array Value) (a0 : Int) (N : Nat) (h : instr_kind a0 N = some (.r19)) (n : Nat) (hA : A = #[vi a0]) (hnd : ([] : List Nat).Nodup) (hlt : ∀ k ∈ ([] : List Nat), k < n) : instr_kindP19 A a0  n :=
 cs_args hA (LSpec.callL (show LSpec Try.prog 19 #[vi a0] [] (Value.agg #[Value.string ⟨#[101, 109, 105, 116]⟩, vi (1 : Int), v0, v0]) [] from instr_kind_spec a0 N _ h) [] n [] rfl hnd hlt (show 0 ≤ 0 from by decide) (show ∀ j ∈ ([] : List Nat), j < 0 from by decide) (by rfl) trivial (by rfl) trivial trivial rfl rfl rfl rfl rfl)

noncomputable def instr_kindT20 (a0 : Int) (n : Nat) : Told := .call [] (Value.agg #[Value.string ⟨#[104, 97, 108, 116]⟩, v0, v0, v0]) [] 0
def instr_kindP20 (A : Array Value) (a0 : Int) (n : Nat) : Prop := CallSpec Try.prog 19 A [] (Value.agg #[Value.string ⟨#[104, 97, 108, 116]⟩, v0, v0, v0]) [] n 0

theorem instr_kindC20 (A : Array Value) (a0 : Int) (N : Nat) (h : instr_kind a0 N = some (.r20)) (n : Nat) (hA : A = #[vi a0]) (hnd : ([] : List Nat).Nodup) (hlt : ∀ k ∈ ([] : List Nat), k < n) : instr_kindP20 A a0  n :=
 cs_args hA (LSpec.callL (show LSpec Try.prog 19 #[vi a0] [] (Value.agg #[Value.string ⟨#[104, 97, 108, 116]⟩, v0, v0, v0]) [] from instr_kind_spec a0 N _ h) [] n [] rfl hnd hlt (show 0 ≤ 0 from by decide) (show ∀ j ∈ ([] : List Nat), j < 0 from by decide) (by rfl) trivial (by rfl) trivial trivial rfl rfl rfl rfl rfl)

noncomputable def instr_shape_fitsV (a0 a1 a2 : Int) : instr_shape_fitsR → Value
 | .r0 w0 => Value.bool w0
noncomputable def instr_shape_fitsPo (a0 a1 a2 : Int) : instr_shape_fitsR → List (Option AObj)
 | .r0 w0 => []

theorem instr_shape_fits_fx (a0 a1 a2 : Int) (N : Nat) : Fx Try.prog ext_Pp Try.f20 [] #[vi a0, vi a1, vi a2] (instr_shape_fitsV a0 a1 a2) (instr_shape_fitsPo a0 a1 a2) (instr_shape_fits a0 a1 a2 N) := by
 unfold instr_shape_fits
 refine fx_ite (fun g0 => ?_) (fun g0 => ?_)
 ·
  refine fx_ite (fun g1 => ?_) (fun g1 => ?_)
  ·
   refine fx_ite (fun g2 => ?_) (fun g2 => ?_)
   ·
    exact fx_fin (r := (.r0 (true) : instr_shape_fitsR)) (fu := 4000) (orc := (orcw [(0, true), (1, true), (2, true)] [] [] [] [])) (live := []) (u := vT) (bl := []) (ob := [((decide (a1 ≤ (7 : Int))), true), ((decide ((0 : Int) ≤ a1)), true), ((a0 == (1 : Int)), true)]) (by kernel_rfl) (oY <| oY <| oT obs_nil) rfl (by decide) (by rfl) rr trivial
   ·
    exact fx_fin (r := (.r0 (false) : instr_shape_fitsR)) (fu := 4000) (orc := (orcw [(0, true), (1, true), (2, false)] [] [] [] [])) (live := []) (u := vf) (bl := []) (ob := [((decide (a1 ≤ (7 : Int))), false), ((decide ((0 : Int) ≤ a1)), true), ((a0 == (1 : Int)), true)]) (by kernel_rfl) (oN <| oY <| oT obs_nil) rfl (by decide) (by rfl) rr trivial
  ·
   exact fx_fin (r := (.r0 (false) : instr_shape_fitsR)) (fu := 4000) (orc := (orcw [(0, true), (1, false)] [] [] [] [])) (live := []) (u := vf) (bl := []) (ob := [((decide ((0 : Int) ≤ a1)), false), ((a0 == (1 : Int)), true)]) (by kernel_rfl) (oN <| oT obs_nil) rfl (by decide) (by rfl) rr trivial
 ·
  refine fx_ite (fun g1 => ?_) (fun g1 => ?_)
  ·
   refine fx_ite (fun g2 => ?_) (fun g2 => ?_)
   ·
    refine fx_ite (fun g3 => ?_) (fun g3 => ?_)
    ·
     exact fx_fin (r := (.r0 (true) : instr_shape_fitsR)) (fu := 4000) (orc := (orcw [(0, false), (1, true), (2, true), (3, true)] [] [] [] [])) (live := []) (u := vT) (bl := []) (ob := [((decide (a1 ≤ (15 : Int))), true), ((decide ((0 : Int) ≤ a1)), true), ((a0 == (2 : Int)), true), ((a0 == (1 : Int)), false)]) (by kernel_rfl) (oY <| oY <| oT <| oF obs_nil) rfl (by decide) (by rfl) rr trivial
    ·
     exact fx_fin (r := (.r0 (false) : instr_shape_fitsR)) (fu := 4000) (orc := (orcw [(0, false), (1, true), (2, true), (3, false)] [] [] [] [])) (live := []) (u := vf) (bl := []) (ob := [((decide (a1 ≤ (15 : Int))), false), ((decide ((0 : Int) ≤ a1)), true), ((a0 == (2 : Int)), true), ((a0 == (1 : Int)), false)]) (by kernel_rfl) (oN <| oY <| oT <| oF obs_nil) rfl (by decide) (by rfl) rr trivial
   ·
    exact fx_fin (r := (.r0 (false) : instr_shape_fitsR)) (fu := 4000) (orc := (orcw [(0, false), (1, true), (2, false)] [] [] [] [])) (live := []) (u := vf) (bl := []) (ob := [((decide ((0 : Int) ≤ a1)), false), ((a0 == (2 : Int)), true), ((a0 == (1 : Int)), false)]) (by kernel_rfl) (oN <| oT <| oF obs_nil) rfl (by decide) (by rfl) rr trivial
  ·
   refine fx_ite (fun g2 => ?_) (fun g2 => ?_)
   ·
    refine fx_ite (fun g3 => ?_) (fun g3 => ?_)
    ·
     refine fx_ite (fun g4 => ?_) (fun g4 => ?_)
     ·
      exact fx_fin (r := (.r0 (true) : instr_shape_fitsR)) (fu := 4000) (orc := (orcw [(0, false), (1, false), (2, true), (3, true), (4, true)] [] [] [] [])) (live := []) (u := vT) (bl := []) (ob := [((decide (a1 ≤ (16 : Int))), true), ((decide ((1 : Int) ≤ a1)), true), ((a0 == (3 : Int)), true), ((a0 == (2 : Int)), false), ((a0 == (1 : Int)), false)]) (by kernel_rfl) (oY <| oY <| oT <| oF <| oF obs_nil) rfl (by decide) (by rfl) rr trivial
     ·
      exact fx_fin (r := (.r0 (false) : instr_shape_fitsR)) (fu := 4000) (orc := (orcw [(0, false), (1, false), (2, true), (3, true), (4, false)] [] [] [] [])) (live := []) (u := vf) (bl := []) (ob := [((decide (a1 ≤ (16 : Int))), false), ((decide ((1 : Int) ≤ a1)), true), ((a0 == (3 : Int)), true), ((a0 == (2 : Int)), false), ((a0 == (1 : Int)), false)]) (by kernel_rfl) (oN <| oY <| oT <| oF <| oF obs_nil) rfl (by decide) (by rfl) rr trivial
    ·
     exact fx_fin (r := (.r0 (false) : instr_shape_fitsR)) (fu := 4000) (orc := (orcw [(0, false), (1, false), (2, true), (3, false)] [] [] [] [])) (live := []) (u := vf) (bl := []) (ob := [((decide ((1 : Int) ≤ a1)), false), ((a0 == (3 : Int)), true), ((a0 == (2 : Int)), false), ((a0 == (1 : Int)), false)]) (by kernel_rfl) (oN <| oT <| oF <| oF obs_nil) rfl (by decide) (by rfl) rr trivial
   ·
    refine fx_ite (fun g3 => ?_) (fun g3 => ?_)
    ·
     refine fx_ite (fun g4 => ?_) (fun g4 => ?_)
     ·
      refine fx_ite (fun g5 => ?_) (fun g5 => ?_)
      ·
       exact fx_fin (r := (.r0 (true) : instr_shape_fitsR)) (fu := 4000) (orc := (orcw [(0, false), (1, false), (2, false), (3, true), (4, true), (5, true)] [] [] [] [])) (live := []) (u := vT) (bl := []) (ob := [((decide (a1 ≤ (512 : Int))), true), ((decide ((0 : Int) ≤ a1)), true), ((a0 == (4 : Int)), true), ((a0 == (3 : Int)), false), ((a0 == (2 : Int)), false), ((a0 == (1 : Int)), false)]) (by kernel_rfl) (oY <| oY <| oT <| oF <| oF <| oF obs_nil) rfl (by decide) (by rfl) rr trivial
      ·
       exact fx_fin (r := (.r0 (false) : instr_shape_fitsR)) (fu := 4000) (orc := (orcw [(0, false), (1, false), (2, false), (3, true), (4, true), (5, false)] [] [] [] [])) (live := []) (u := vf) (bl := []) (ob := [((decide (a1 ≤ (512 : Int))), false), ((decide ((0 : Int) ≤ a1)), true), ((a0 == (4 : Int)), true), ((a0 == (3 : Int)), false), ((a0 == (2 : Int)), false), ((a0 == (1 : Int)), false)]) (by kernel_rfl) (oN <| oY <| oT <| oF <| oF <| oF obs_nil) rfl (by decide) (by rfl) rr trivial
     ·
      exact fx_fin (r := (.r0 (false) : instr_shape_fitsR)) (fu := 4000) (orc := (orcw [(0, false), (1, false), (2, false), (3, true), (4, false)] [] [] [] [])) (live := []) (u := vf) (bl := []) (ob := [((decide ((0 : Int) ≤ a1)), false), ((a0 == (4 : Int)), true), ((a0 == (3 : Int)), false), ((a0 == (2 : Int)), false), ((a0 == (1 : Int)), false)]) (by kernel_rfl) (oN <| oT <| oF <| oF <| oF obs_nil) rfl (by decide) (by rfl) rr trivial
    ·
     refine fx_ite (fun g4 => ?_) (fun g4 => ?_)
     ·
      refine fx_ite (fun g5 => ?_) (fun g5 => ?_)
      ·
       refine fx_ite (fun g6 => ?_) (fun g6 => ?_)
       ·
        refine fx_ite (fun g7 => ?_) (fun g7 => ?_)
        ·
         refine fx_ite (fun g8 => ?_) (fun g8 => ?_)
         ·
          exact fx_fin (r := (.r0 (true) : instr_shape_fitsR)) (fu := 4000) (orc := (orcw [(0, false), (1, false), (2, false), (3, false), (4, true), (5, true), (6, true)] [] [] [] [(0, .sh (a2).toNat)])) (live := []) (u := vT) (bl := []) (ob := [((decide (a1 ≤ (IntKind.i64.wrap ((IntKind.i64.wrap ((1 : Int) * (2 ^ (a2).toNat : Int))) - (1 : Int))))), true), ((decide ((0 : Int) ≤ a1)), true), (dP (a2 = Int.ofNat (a2).toNat ∧ (a2).toNat ≤ IntKind.i64.bits), true), ((a0 == (5 : Int)), true), ((a0 == (4 : Int)), false), ((a0 == (3 : Int)), false), ((a0 == (2 : Int)), false), ((a0 == (1 : Int)), false)]) (by kernel_rfl) (oY <| oY <| obs_cons (dP_of ⟨by first | rfl | exact idx_eq (by omega), show _ ≤ 64 from by omega⟩) <| oT <| oF <| oF <| oF <| oF obs_nil) rfl (by decide) (by rfl) rr trivial
         ·
          exact fx_fin (r := (.r0 (false) : instr_shape_fitsR)) (fu := 4000) (orc := (orcw [(0, false), (1, false), (2, false), (3, false), (4, true), (5, true), (6, false)] [] [] [] [(0, .sh (a2).toNat)])) (live := []) (u := vf) (bl := []) (ob := [((decide (a1 ≤ (IntKind.i64.wrap ((IntKind.i64.wrap ((1 : Int) * (2 ^ (a2).toNat : Int))) - (1 : Int))))), false), ((decide ((0 : Int) ≤ a1)), true), (dP (a2 = Int.ofNat (a2).toNat ∧ (a2).toNat ≤ IntKind.i64.bits), true), ((a0 == (5 : Int)), true), ((a0 == (4 : Int)), false), ((a0 == (3 : Int)), false), ((a0 == (2 : Int)), false), ((a0 == (1 : Int)), false)]) (by kernel_rfl) (oN <| oY <| obs_cons (dP_of ⟨by first | rfl | exact idx_eq (by omega), show _ ≤ 64 from by omega⟩) <| oT <| oF <| oF <| oF <| oF obs_nil) rfl (by decide) (by rfl) rr trivial
        ·
         exact fx_fin (r := (.r0 (false) : instr_shape_fitsR)) (fu := 4000) (orc := (orcw [(0, false), (1, false), (2, false), (3, false), (4, true), (5, false)] [] [] [] [(0, .sh (a2).toNat)])) (live := []) (u := vf) (bl := []) (ob := [((decide ((0 : Int) ≤ a1)), false), (dP (a2 = Int.ofNat (a2).toNat ∧ (a2).toNat ≤ IntKind.i64.bits), true), ((a0 == (5 : Int)), true), ((a0 == (4 : Int)), false), ((a0 == (3 : Int)), false), ((a0 == (2 : Int)), false), ((a0 == (1 : Int)), false)]) (by kernel_rfl) (oN <| obs_cons (dP_of ⟨by first | rfl | exact idx_eq (by omega), show _ ≤ 64 from by omega⟩) <| oT <| oF <| oF <| oF <| oF obs_nil) rfl (by decide) (by rfl) rr trivial
       ·
        exact fx_none
      ·
       exact fx_none
     ·
      refine fx_ite (fun g5 => ?_) (fun g5 => ?_)
      ·
       refine fx_ite (fun g6 => ?_) (fun g6 => ?_)
       ·
        refine fx_ite (fun g7 => ?_) (fun g7 => ?_)
        ·
         exact fx_fin (r := (.r0 (true) : instr_shape_fitsR)) (fu := 4000) (orc := (orcw [(0, false), (1, false), (2, false), (3, false), (4, false), (5, true), (6, true), (7, true)] [] [] [] [])) (live := []) (u := vT) (bl := []) (ob := [((decide (a1 ≤ (1099511627776 : Int))), true), ((decide ((-1099511627776 : Int) ≤ a1)), true), ((a0 == (6 : Int)), true), ((a0 == (5 : Int)), false), ((a0 == (4 : Int)), false), ((a0 == (3 : Int)), false), ((a0 == (2 : Int)), false), ((a0 == (1 : Int)), false)]) (by kernel_rfl) (oY <| oY <| oT <| oF <| oF <| oF <| oF <| oF obs_nil) rfl (by decide) (by rfl) rr trivial
        ·
         exact fx_fin (r := (.r0 (false) : instr_shape_fitsR)) (fu := 4000) (orc := (orcw [(0, false), (1, false), (2, false), (3, false), (4, false), (5, true), (6, true), (7, false)] [] [] [] [])) (live := []) (u := vf) (bl := []) (ob := [((decide (a1 ≤ (1099511627776 : Int))), false), ((decide ((-1099511627776 : Int) ≤ a1)), true), ((a0 == (6 : Int)), true), ((a0 == (5 : Int)), false), ((a0 == (4 : Int)), false), ((a0 == (3 : Int)), false), ((a0 == (2 : Int)), false), ((a0 == (1 : Int)), false)]) (by kernel_rfl) (oN <| oY <| oT <| oF <| oF <| oF <| oF <| oF obs_nil) rfl (by decide) (by rfl) rr trivial
       ·
        exact fx_fin (r := (.r0 (false) : instr_shape_fitsR)) (fu := 4000) (orc := (orcw [(0, false), (1, false), (2, false), (3, false), (4, false), (5, true), (6, false)] [] [] [] [])) (live := []) (u := vf) (bl := []) (ob := [((decide ((-1099511627776 : Int) ≤ a1)), false), ((a0 == (6 : Int)), true), ((a0 == (5 : Int)), false), ((a0 == (4 : Int)), false), ((a0 == (3 : Int)), false), ((a0 == (2 : Int)), false), ((a0 == (1 : Int)), false)]) (by kernel_rfl) (oN <| oT <| oF <| oF <| oF <| oF <| oF obs_nil) rfl (by decide) (by rfl) rr trivial
      ·
       refine fx_ite (fun g6 => ?_) (fun g6 => ?_)
       ·
        refine fx_ite (fun g7 => ?_) (fun g7 => ?_)
        ·
         exact fx_fin (r := (.r0 (true) : instr_shape_fitsR)) (fu := 4000) (orc := (orcw [(0, false), (1, false), (2, false), (3, false), (4, false), (5, false), (6, true), (7, true)] [] [] [] [])) (live := []) (u := vT) (bl := []) (ob := [((decide (a1 ≤ (0 : Int))), true), ((decide ((0 : Int) ≤ a1)), true), ((a0 == (6 : Int)), false), ((a0 == (5 : Int)), false), ((a0 == (4 : Int)), false), ((a0 == (3 : Int)), false), ((a0 == (2 : Int)), false), ((a0 == (1 : Int)), false)]) (by kernel_rfl) (oY <| oY <| oF <| oF <| oF <| oF <| oF <| oF obs_nil) rfl (by decide) (by rfl) rr trivial
        ·
         exact fx_fin (r := (.r0 (false) : instr_shape_fitsR)) (fu := 4000) (orc := (orcw [(0, false), (1, false), (2, false), (3, false), (4, false), (5, false), (6, true), (7, false)] [] [] [] [])) (live := []) (u := vf) (bl := []) (ob := [((decide (a1 ≤ (0 : Int))), false), ((decide ((0 : Int) ≤ a1)), true), ((a0 == (6 : Int)), false), ((a0 == (5 : Int)), false), ((a0 == (4 : Int)), false), ((a0 == (3 : Int)), false), ((a0 == (2 : Int)), false), ((a0 == (1 : Int)), false)]) (by kernel_rfl) (oN <| oY <| oF <| oF <| oF <| oF <| oF <| oF obs_nil) rfl (by decide) (by rfl) rr trivial
       ·
        exact fx_fin (r := (.r0 (false) : instr_shape_fitsR)) (fu := 4000) (orc := (orcw [(0, false), (1, false), (2, false), (3, false), (4, false), (5, false), (6, false)] [] [] [] [])) (live := []) (u := vf) (bl := []) (ob := [((decide ((0 : Int) ≤ a1)), false), ((a0 == (6 : Int)), false), ((a0 == (5 : Int)), false), ((a0 == (4 : Int)), false), ((a0 == (3 : Int)), false), ((a0 == (2 : Int)), false), ((a0 == (1 : Int)), false)]) (by kernel_rfl) (oN <| oF <| oF <| oF <| oF <| oF <| oF obs_nil) rfl (by decide) (by rfl) rr trivial

theorem instr_shape_fits_spec (a0 a1 a2 : Int) (N : Nat) (r : instr_shape_fitsR) (h : instr_shape_fits a0 a1 a2 N = some r) : LSpec Try.prog 20 #[vi a0, vi a1, vi a2] [] (instr_shape_fitsV a0 a1 a2 r) (instr_shape_fitsPo a0 a1 a2 r) :=
 fx_spec fit_Pp Try.func20 (by kernel_rfl) (by kernel_rfl) (fun r => by cases r <;> exact le_far _ rfl) (instr_shape_fits_fx a0 a1 a2 N) h

noncomputable def instr_shape_fitsT0 (a0 a1 a2 : Int) (w0 : Bool) (n : Nat) : Told := .call [] (Value.bool w0) [] 0
def instr_shape_fitsP0 (A : Array Value) (a0 a1 a2 : Int) (w0 : Bool) (n : Nat) : Prop := CallSpec Try.prog 20 A [] (Value.bool w0) [] n 0

theorem instr_shape_fitsC0 (A : Array Value) (a0 a1 a2 : Int) (w0 : Bool) (N : Nat) (h : instr_shape_fits a0 a1 a2 N = some (.r0 w0)) (n : Nat) (hA : A = #[vi a0, vi a1, vi a2]) (hnd : ([] : List Nat).Nodup) (hlt : ∀ k ∈ ([] : List Nat), k < n) : instr_shape_fitsP0 A a0 a1 a2 w0  n :=
 cs_args hA (LSpec.callL (show LSpec Try.prog 20 #[vi a0, vi a1, vi a2] [] (Value.bool w0) [] from instr_shape_fits_spec a0 a1 a2 N _ h) [] n [] rfl hnd hlt (show 0 ≤ 0 from by decide) (show ∀ j ∈ ([] : List Nat), j < 0 from by decide) (by rfl) trivial (by rfl) trivial trivial rfl rfl rfl rfl rfl)

noncomputable def instr_CheckV (a0 a1 a2 a3 : Int) : instr_CheckR → Value
 | .r0 w0 => vi w0
noncomputable def instr_CheckPo (a0 a1 a2 a3 : Int) : instr_CheckR → List (Option AObj)
 | .r0 w0 => []

def instr_CheckHd : instr_CheckX → Nat
 | .h1m0 v1 v2 v3 => 1
 | .h1m1 v1 v2 v3 => 1
 | .h1m2 v1 v2 v3 => 1
 | .h1m3 v1 v2 v3 => 1
noncomputable def instr_CheckL (a0 a1 a2 a3 : Int) : instr_CheckX → List (Nat × Value)
 | .h1m0 v1 v2 v3 => [(4, vp 0 0), (5, v0), (22, Value.agg #[vi (v1 : Int), vi (v2 : Int), vi (v3 : Int)]), (23, v0)]
 | .h1m1 v1 v2 v3 => [(4, vp 0 0), (5, vi a1), (22, Value.agg #[vi (v1 : Int), vi (v2 : Int), vi (v3 : Int)]), (23, vi (1 : Int))]
 | .h1m2 v1 v2 v3 => [(4, vp 0 0), (5, vi a2), (22, Value.agg #[vi (v1 : Int), vi (v2 : Int), vi (v3 : Int)]), (23, vi (2 : Int))]
 | .h1m3 v1 v2 v3 => [(4, vp 0 0), (5, vi a3), (22, Value.agg #[vi (v1 : Int), vi (v2 : Int), vi (v3 : Int)]), (23, vi (3 : Int))]
noncomputable def instr_CheckH (a0 a1 a2 a3 : Int) : instr_CheckX → List (Option AObj)
 | .h1m0 v1 v2 v3 => [some (.cells [vi a1, vi a2, vi a3] 50)]
 | .h1m1 v1 v2 v3 => [some (.cells [vi a1, vi a2, vi a3] 50)]
 | .h1m2 v1 v2 v3 => [some (.cells [vi a1, vi a2, vi a3] 50)]
 | .h1m3 v1 v2 v3 => [some (.cells [vi a1, vi a2, vi a3] 50)]

noncomputable def instr_CheckC : Nat → Code × List Kont
 | 1 => headOf [1, 1, 1, 1, 1, 0, 1, 3] (bodyC Try.f14) []
 | _ => (.skip, [])
def instr_CheckIL : Nat → Bool
 | 1 => true
 | _ => true
noncomputable def instr_CheckK (i : Nat) : List Kont := match instr_CheckIL i with | true => .rnd i :: (instr_CheckC i).2 | false => (instr_CheckC i).2

noncomputable def instr_CheckM (a0 a1 a2 a3 : Int) (N : Nat) : Mach := ⟨Try.f14, [], instr_CheckX, instr_CheckR, instr_CheckStep a0 a1 a2 a3 N, instr_CheckHd, instr_CheckC, instr_CheckIL, instr_CheckL a0 a1 a2 a3, instr_CheckH a0 a1 a2 a3, instr_CheckV a0 a1 a2 a3, instr_CheckPo a0 a1 a2 a3⟩

theorem instr_Check_ok1_0 (a0 a1 a2 a3 : Int) (v1 v2 v3 N : Nat) : (instr_CheckM a0 a1 a2 a3 N).Ok Try.prog ext_Pp (.h1m0 v1 v2 v3 : instr_CheckX) (instr_CheckStep a0 a1 a2 a3 N (.h1m0 v1 v2 v3 : instr_CheckX)) := by
 show (instr_CheckM a0 a1 a2 a3 N).Ok Try.prog ext_Pp (.h1m0 v1 v2 v3 : instr_CheckX) (instr_Check_h1m0 a0 a1 a2 a3 N v1 v2 v3)
 unfold instr_Check_h1m0
 refine Mach.ok_bind (fun z0 c0 => ?_)
 cases z0 with
 | r0 y0_0 =>
  refine Mach.ok_ite (fun g1 => ?_) (fun g1 => ?_)
  ·
   exact Mach.ok_fin (M := instr_CheckM a0 a1 a2 a3 N) (cd := 1000000) (cm := 0) (r := (.r0 ((100 : Int)) : instr_CheckR)) (fu := 4000) (orc := (orcw [(1, true)] [] [] [] [(0, (instr_shape_fitsT0 ((v1 : Int)) (a1) ((0 : Int))  y0_0  1))])) (live := []) (u := vi (100 : Int)) (bl := []) (ob := [((!y0_0), true), (dP (instr_shape_fitsP0 #[vi (v1 : Int), vi a1, v0] ((v1 : Int)) (a1) ((0 : Int))  y0_0  1), true)]) (fun gv => by kernel_rfl) (obs_cons (notB_t (by first | assumption | simp_all)) <| obs_cons (dP_of (instr_shape_fitsC0 #[vi (v1 : Int), vi a1, v0] ((v1 : Int)) (a1) ((0 : Int))  y0_0 N c0  1 rfl (by decide) (by decide))) obs_nil) rfl (by decide) (by rfl) rr trivial
  ·
   exact Mach.ok_next (M := instr_CheckM a0 a1 a2 a3 N) (cd := 1000000) (cm := 0) (y := (.h1m1 (v1) (v2) (v3) : instr_CheckX)) (fu := 4000) (orc := (orcw [(1, false)] [] [] [] [(0, (instr_shape_fitsT0 ((v1 : Int)) (a1) ((0 : Int))  y0_0  1))])) (live := [0]) (tv := fun _ => [some (vp 0 0), some (vi a1), some (Value.agg #[vi (v1 : Int), vi (v2 : Int), vi (v3 : Int)]), some (vi (1 : Int))]) (bl := [some (.cells [vi a1, vi a2, vi a3] 50)]) (ob := [((!y0_0), false), (dP (instr_shape_fitsP0 #[vi (v1 : Int), vi a1, v0] ((v1 : Int)) (a1) ((0 : Int))  y0_0  1), true)]) rfl (show 1 ∈ rids (instr_CheckK 1) from by decide +kernel) (fun gv => by kernel_rfl) (obs_cons (notB_f (by first | assumption | exact Decidable.not_not.1 (by assumption) | simp_all)) <| obs_cons (dP_of (instr_shape_fitsC0 #[vi (v1 : Int), vi a1, v0] ((v1 : Int)) (a1) ((0 : Int))  y0_0 N c0  1 rfl (by decide) (by decide))) obs_nil) rfl (by decide) (by rfl) (fun _ => ⟨rr, ⟨rr, ⟨rr, ⟨rr, trivial⟩⟩⟩⟩) ⟨⟨rfl, ⟨[], by rfl⟩, by rfl⟩, trivial⟩

theorem instr_Check_ok1_1 (a0 a1 a2 a3 : Int) (v1 v2 v3 N : Nat) : (instr_CheckM a0 a1 a2 a3 N).Ok Try.prog ext_Pp (.h1m1 v1 v2 v3 : instr_CheckX) (instr_CheckStep a0 a1 a2 a3 N (.h1m1 v1 v2 v3 : instr_CheckX)) := by
 show (instr_CheckM a0 a1 a2 a3 N).Ok Try.prog ext_Pp (.h1m1 v1 v2 v3 : instr_CheckX) (instr_Check_h1m1 a0 a1 a2 a3 N v1 v2 v3)
 unfold instr_Check_h1m1
 refine Mach.ok_bind (fun z0 c0 => ?_)
 cases z0 with
 | r0 y0_0 =>
  refine Mach.ok_ite (fun g1 => ?_) (fun g1 => ?_)
  ·
   exact Mach.ok_fin (M := instr_CheckM a0 a1 a2 a3 N) (cd := 1000000) (cm := 0) (r := (.r0 ((100 : Int)) : instr_CheckR)) (fu := 4000) (orc := (orcw [(1, true)] [] [] [] [(0, (instr_shape_fitsT0 ((v2 : Int)) (a2) (a1)  y0_0  1))])) (live := []) (u := vi (100 : Int)) (bl := []) (ob := [((!y0_0), true), (dP (instr_shape_fitsP0 #[vi (v2 : Int), vi a2, vi a1] ((v2 : Int)) (a2) (a1)  y0_0  1), true)]) (fun gv => by kernel_rfl) (obs_cons (notB_t (by first | assumption | simp_all)) <| obs_cons (dP_of (instr_shape_fitsC0 #[vi (v2 : Int), vi a2, vi a1] ((v2 : Int)) (a2) (a1)  y0_0 N c0  1 rfl (by decide) (by decide))) obs_nil) rfl (by decide) (by rfl) rr trivial
  ·
   exact Mach.ok_next (M := instr_CheckM a0 a1 a2 a3 N) (cd := 1000000) (cm := 0) (y := (.h1m2 (v1) (v2) (v3) : instr_CheckX)) (fu := 4000) (orc := (orcw [(1, false)] [] [] [] [(0, (instr_shape_fitsT0 ((v2 : Int)) (a2) (a1)  y0_0  1))])) (live := [0]) (tv := fun _ => [some (vp 0 0), some (vi a2), some (Value.agg #[vi (v1 : Int), vi (v2 : Int), vi (v3 : Int)]), some (vi (2 : Int))]) (bl := [some (.cells [vi a1, vi a2, vi a3] 50)]) (ob := [((!y0_0), false), (dP (instr_shape_fitsP0 #[vi (v2 : Int), vi a2, vi a1] ((v2 : Int)) (a2) (a1)  y0_0  1), true)]) rfl (show 1 ∈ rids (instr_CheckK 1) from by decide +kernel) (fun gv => by kernel_rfl) (obs_cons (notB_f (by first | assumption | exact Decidable.not_not.1 (by assumption) | simp_all)) <| obs_cons (dP_of (instr_shape_fitsC0 #[vi (v2 : Int), vi a2, vi a1] ((v2 : Int)) (a2) (a1)  y0_0 N c0  1 rfl (by decide) (by decide))) obs_nil) rfl (by decide) (by rfl) (fun _ => ⟨rr, ⟨rr, ⟨rr, ⟨rr, trivial⟩⟩⟩⟩) ⟨⟨rfl, ⟨[], by rfl⟩, by rfl⟩, trivial⟩

theorem instr_Check_ok1_2 (a0 a1 a2 a3 : Int) (v1 v2 v3 N : Nat) : (instr_CheckM a0 a1 a2 a3 N).Ok Try.prog ext_Pp (.h1m2 v1 v2 v3 : instr_CheckX) (instr_CheckStep a0 a1 a2 a3 N (.h1m2 v1 v2 v3 : instr_CheckX)) := by
 show (instr_CheckM a0 a1 a2 a3 N).Ok Try.prog ext_Pp (.h1m2 v1 v2 v3 : instr_CheckX) (instr_Check_h1m2 a0 a1 a2 a3 N v1 v2 v3)
 unfold instr_Check_h1m2
 refine Mach.ok_bind (fun z0 c0 => ?_)
 cases z0 with
 | r0 y0_0 =>
  refine Mach.ok_ite (fun g1 => ?_) (fun g1 => ?_)
  ·
   exact Mach.ok_fin (M := instr_CheckM a0 a1 a2 a3 N) (cd := 1000000) (cm := 0) (r := (.r0 ((100 : Int)) : instr_CheckR)) (fu := 4000) (orc := (orcw [(1, true)] [] [] [] [(0, (instr_shape_fitsT0 ((v3 : Int)) (a3) (a2)  y0_0  1))])) (live := []) (u := vi (100 : Int)) (bl := []) (ob := [((!y0_0), true), (dP (instr_shape_fitsP0 #[vi (v3 : Int), vi a3, vi a2] ((v3 : Int)) (a3) (a2)  y0_0  1), true)]) (fun gv => by kernel_rfl) (obs_cons (notB_t (by first | assumption | simp_all)) <| obs_cons (dP_of (instr_shape_fitsC0 #[vi (v3 : Int), vi a3, vi a2] ((v3 : Int)) (a3) (a2)  y0_0 N c0  1 rfl (by decide) (by decide))) obs_nil) rfl (by decide) (by rfl) rr trivial
  ·
   exact Mach.ok_next (M := instr_CheckM a0 a1 a2 a3 N) (cd := 1000000) (cm := 0) (y := (.h1m3 (v1) (v2) (v3) : instr_CheckX)) (fu := 4000) (orc := (orcw [(1, false)] [] [] [] [(0, (instr_shape_fitsT0 ((v3 : Int)) (a3) (a2)  y0_0  1))])) (live := [0]) (tv := fun _ => [some (vp 0 0), some (vi a3), some (Value.agg #[vi (v1 : Int), vi (v2 : Int), vi (v3 : Int)]), some (vi (3 : Int))]) (bl := [some (.cells [vi a1, vi a2, vi a3] 50)]) (ob := [((!y0_0), false), (dP (instr_shape_fitsP0 #[vi (v3 : Int), vi a3, vi a2] ((v3 : Int)) (a3) (a2)  y0_0  1), true)]) rfl (show 1 ∈ rids (instr_CheckK 1) from by decide +kernel) (fun gv => by kernel_rfl) (obs_cons (notB_f (by first | assumption | exact Decidable.not_not.1 (by assumption) | simp_all)) <| obs_cons (dP_of (instr_shape_fitsC0 #[vi (v3 : Int), vi a3, vi a2] ((v3 : Int)) (a3) (a2)  y0_0 N c0  1 rfl (by decide) (by decide))) obs_nil) rfl (by decide) (by rfl) (fun _ => ⟨rr, ⟨rr, ⟨rr, ⟨rr, trivial⟩⟩⟩⟩) ⟨⟨rfl, ⟨[], by rfl⟩, by rfl⟩, trivial⟩

theorem instr_Check_ok1_3 (a0 a1 a2 a3 : Int) (v1 v2 v3 N : Nat) : (instr_CheckM a0 a1 a2 a3 N).Ok Try.prog ext_Pp (.h1m3 v1 v2 v3 : instr_CheckX) (instr_CheckStep a0 a1 a2 a3 N (.h1m3 v1 v2 v3 : instr_CheckX)) := by
 show (instr_CheckM a0 a1 a2 a3 N).Ok Try.prog ext_Pp (.h1m3 v1 v2 v3 : instr_CheckX) (instr_Check_h1m3 a0 a1 a2 a3 N v1 v2 v3)
 unfold instr_Check_h1m3
 exact Mach.ok_fin (M := instr_CheckM a0 a1 a2 a3 N) (cd := 1000000) (cm := 0) (r := (.r0 ((0 : Int)) : instr_CheckR)) (fu := 4000) (orc := (orcw [] [] [] [] [])) (live := []) (u := v0) (bl := []) (ob := []) (fun gv => by kernel_rfl) obs_nil rfl (by decide) (by rfl) rr trivial

theorem instr_Check_en (a0 a1 a2 a3 : Int) (N : Nat) : (instr_CheckM a0 a1 a2 a3 N).Enter Try.prog ext_Pp #[Value.agg #[vi a0, vi a1, vi a2, vi a3]] (instr_CheckIn a0 a1 a2 a3 N) := by
 unfold instr_CheckIn
 refine Mach.en_bind (fun z0 c0 => ?_)
 cases z0 with
 | r0 =>
  exact Mach.en_fin (M := instr_CheckM a0 a1 a2 a3 N) (cd := 1000000) (cm := 0) (r := (.r0 ((100 : Int)) : instr_CheckR)) (fu := 4000) (orc := (orcw [] [] [] [] [(0, (instr_kindT0 (a0)    1))])) (live := []) (u := vi (100 : Int)) (bl := []) (ob := [(dP (instr_kindP0 #[vi a0] (a0)    1), true)]) (by kernel_rfl) (obs_cons (dP_of (instr_kindC0 #[vi a0] (a0)   N c0  1 rfl (by decide) (by decide))) obs_nil) rfl (by decide) (by rfl) rr trivial
 | r1 =>
  exact Mach.en_head (bK := instr_CheckC 1) (M := instr_CheckM a0 a1 a2 a3 N) (cd := 1000000) (cm := 0) (y := (.h1m0 (1) (6) (0) : instr_CheckX)) (fu := 4000) (orc := (orcw [] [] [] [] [(0, (instr_kindT1 (a0)    1))])) (live := [2]) (tv := [some (vp 2 0), some (v0), some (Value.agg #[vi (1 : Int), vi (6 : Int), v0]), some (v0)]) (bl := [some (.cells [vi a1, vi a2, vi a3] 50)]) (ob := [(dP (instr_kindP1 #[vi a0] (a0)    1), true)]) rfl rfl (show rids (instr_CheckC 1).2 = [] from rfl) (by kernel_rfl) (obs_cons (dP_of (instr_kindC1 #[vi a0] (a0)   N c0  1 rfl (by decide) (by decide))) obs_nil) rfl (by decide) (by rfl) ⟨rr, ⟨rr, ⟨⟨Eq.trans (show (Value.agg #[vi ((1 : Nat) : Int), vi ((6 : Nat) : Int), vi ((0 : Nat) : Int)] : Value) = Value.agg #[vi (1 : Int), vi (6 : Int), v0] from (agg_eq (cons_eq (congrArg (Value.int .i64) (by first | rfl | omega)) (cons_eq (congrArg (Value.int .i64) (by first | rfl | omega)) (cons_eq (congrArg (Value.int .i64) (by first | rfl | omega)) rfl))))) (by rfl), by rfl⟩, ⟨rr, trivial⟩⟩⟩⟩ ⟨⟨rfl, ⟨[], by rfl⟩, by rfl⟩, trivial⟩
 | r2 =>
  exact Mach.en_head (bK := instr_CheckC 1) (M := instr_CheckM a0 a1 a2 a3 N) (cd := 1000000) (cm := 0) (y := (.h1m0 (1) (0) (0) : instr_CheckX)) (fu := 4000) (orc := (orcw [] [] [] [] [(0, (instr_kindT2 (a0)    1))])) (live := [2]) (tv := [some (vp 2 0), some (v0), some (Value.agg #[vi (1 : Int), v0, v0]), some (v0)]) (bl := [some (.cells [vi a1, vi a2, vi a3] 50)]) (ob := [(dP (instr_kindP2 #[vi a0] (a0)    1), true)]) rfl rfl (show rids (instr_CheckC 1).2 = [] from rfl) (by kernel_rfl) (obs_cons (dP_of (instr_kindC2 #[vi a0] (a0)   N c0  1 rfl (by decide) (by decide))) obs_nil) rfl (by decide) (by rfl) ⟨rr, ⟨rr, ⟨⟨Eq.trans (show (Value.agg #[vi ((1 : Nat) : Int), vi ((0 : Nat) : Int), vi ((0 : Nat) : Int)] : Value) = Value.agg #[vi (1 : Int), v0, v0] from (agg_eq (cons_eq (congrArg (Value.int .i64) (by first | rfl | omega)) (cons_eq (congrArg (Value.int .i64) (by first | rfl | omega)) (cons_eq (congrArg (Value.int .i64) (by first | rfl | omega)) rfl))))) (by rfl), by rfl⟩, ⟨rr, trivial⟩⟩⟩⟩ ⟨⟨rfl, ⟨[], by rfl⟩, by rfl⟩, trivial⟩
 | r3 =>
  exact Mach.en_head (bK := instr_CheckC 1) (M := instr_CheckM a0 a1 a2 a3 N) (cd := 1000000) (cm := 0) (y := (.h1m0 (1) (1) (0) : instr_CheckX)) (fu := 4000) (orc := (orcw [] [] [] [] [(0, (instr_kindT3 (a0)    1))])) (live := [2]) (tv := [some (vp 2 0), some (v0), some (Value.agg #[vi (1 : Int), vi (1 : Int), v0]), some (v0)]) (bl := [some (.cells [vi a1, vi a2, vi a3] 50)]) (ob := [(dP (instr_kindP3 #[vi a0] (a0)    1), true)]) rfl rfl (show rids (instr_CheckC 1).2 = [] from rfl) (by kernel_rfl) (obs_cons (dP_of (instr_kindC3 #[vi a0] (a0)   N c0  1 rfl (by decide) (by decide))) obs_nil) rfl (by decide) (by rfl) ⟨rr, ⟨rr, ⟨⟨Eq.trans (show (Value.agg #[vi ((1 : Nat) : Int), vi ((1 : Nat) : Int), vi ((0 : Nat) : Int)] : Value) = Value.agg #[vi (1 : Int), vi (1 : Int), v0] from (agg_eq (cons_eq (congrArg (Value.int .i64) (by first | rfl | omega)) (cons_eq (congrArg (Value.int .i64) (by first | rfl | omega)) (cons_eq (congrArg (Value.int .i64) (by first | rfl | omega)) rfl))))) (by rfl), by rfl⟩, ⟨rr, trivial⟩⟩⟩⟩ ⟨⟨rfl, ⟨[], by rfl⟩, by rfl⟩, trivial⟩
 | r4 =>
  exact Mach.en_head (bK := instr_CheckC 1) (M := instr_CheckM a0 a1 a2 a3 N) (cd := 1000000) (cm := 0) (y := (.h1m0 (1) (1) (1) : instr_CheckX)) (fu := 4000) (orc := (orcw [] [] [] [] [(0, (instr_kindT4 (a0)    1))])) (live := [2]) (tv := [some (vp 2 0), some (v0), some (Value.agg #[vi (1 : Int), vi (1 : Int), vi (1 : Int)]), some (v0)]) (bl := [some (.cells [vi a1, vi a2, vi a3] 50)]) (ob := [(dP (instr_kindP4 #[vi a0] (a0)    1), true)]) rfl rfl (show rids (instr_CheckC 1).2 = [] from rfl) (by kernel_rfl) (obs_cons (dP_of (instr_kindC4 #[vi a0] (a0)   N c0  1 rfl (by decide) (by decide))) obs_nil) rfl (by decide) (by rfl) ⟨rr, ⟨rr, ⟨⟨Eq.trans (show (Value.agg #[vi ((1 : Nat) : Int), vi ((1 : Nat) : Int), vi ((1 : Nat) : Int)] : Value) = Value.agg #[vi (1 : Int), vi (1 : Int), vi (1 : Int)] from (agg_eq (cons_eq (congrArg (Value.int .i64) (by first | rfl | omega)) (cons_eq (congrArg (Value.int .i64) (by first | rfl | omega)) (cons_eq (congrArg (Value.int .i64) (by first | rfl | omega)) rfl))))) (by rfl), by rfl⟩, ⟨rr, trivial⟩⟩⟩⟩ ⟨⟨rfl, ⟨[], by rfl⟩, by rfl⟩, trivial⟩
 | r5 =>
  exact Mach.en_head (bK := instr_CheckC 1) (M := instr_CheckM a0 a1 a2 a3 N) (cd := 1000000) (cm := 0) (y := (.h1m0 (1) (1) (1) : instr_CheckX)) (fu := 4000) (orc := (orcw [] [] [] [] [(0, (instr_kindT5 (a0)    1))])) (live := [2]) (tv := [some (vp 2 0), some (v0), some (Value.agg #[vi (1 : Int), vi (1 : Int), vi (1 : Int)]), some (v0)]) (bl := [some (.cells [vi a1, vi a2, vi a3] 50)]) (ob := [(dP (instr_kindP5 #[vi a0] (a0)    1), true)]) rfl rfl (show rids (instr_CheckC 1).2 = [] from rfl) (by kernel_rfl) (obs_cons (dP_of (instr_kindC5 #[vi a0] (a0)   N c0  1 rfl (by decide) (by decide))) obs_nil) rfl (by decide) (by rfl) ⟨rr, ⟨rr, ⟨⟨Eq.trans (show (Value.agg #[vi ((1 : Nat) : Int), vi ((1 : Nat) : Int), vi ((1 : Nat) : Int)] : Value) = Value.agg #[vi (1 : Int), vi (1 : Int), vi (1 : Int)] from (agg_eq (cons_eq (congrArg (Value.int .i64) (by first | rfl | omega)) (cons_eq (congrArg (Value.int .i64) (by first | rfl | omega)) (cons_eq (congrArg (Value.int .i64) (by first | rfl | omega)) rfl))))) (by rfl), by rfl⟩, ⟨rr, trivial⟩⟩⟩⟩ ⟨⟨rfl, ⟨[], by rfl⟩, by rfl⟩, trivial⟩
 | r6 =>
  exact Mach.en_head (bK := instr_CheckC 1) (M := instr_CheckM a0 a1 a2 a3 N) (cd := 1000000) (cm := 0) (y := (.h1m0 (1) (1) (1) : instr_CheckX)) (fu := 4000) (orc := (orcw [] [] [] [] [(0, (instr_kindT6 (a0)    1))])) (live := [2]) (tv := [some (vp 2 0), some (v0), some (Value.agg #[vi (1 : Int), vi (1 : Int), vi (1 : Int)]), some (v0)]) (bl := [some (.cells [vi a1, vi a2, vi a3] 50)]) (ob := [(dP (instr_kindP6 #[vi a0] (a0)    1), true)]) rfl rfl (show rids (instr_CheckC 1).2 = [] from rfl) (by kernel_rfl) (obs_cons (dP_of (instr_kindC6 #[vi a0] (a0)   N c0  1 rfl (by decide) (by decide))) obs_nil) rfl (by decide) (by rfl) ⟨rr, ⟨rr, ⟨⟨Eq.trans (show (Value.agg #[vi ((1 : Nat) : Int), vi ((1 : Nat) : Int), vi ((1 : Nat) : Int)] : Value) = Value.agg #[vi (1 : Int), vi (1 : Int), vi (1 : Int)] from (agg_eq (cons_eq (congrArg (Value.int .i64) (by first | rfl | omega)) (cons_eq (congrArg (Value.int .i64) (by first | rfl | omega)) (cons_eq (congrArg (Value.int .i64) (by first | rfl | omega)) rfl))))) (by rfl), by rfl⟩, ⟨rr, trivial⟩⟩⟩⟩ ⟨⟨rfl, ⟨[], by rfl⟩, by rfl⟩, trivial⟩
 | r7 =>
  exact Mach.en_head (bK := instr_CheckC 1) (M := instr_CheckM a0 a1 a2 a3 N) (cd := 1000000) (cm := 0) (y := (.h1m0 (1) (1) (1) : instr_CheckX)) (fu := 4000) (orc := (orcw [] [] [] [] [(0, (instr_kindT7 (a0)    1))])) (live := [2]) (tv := [some (vp 2 0), some (v0), some (Value.agg #[vi (1 : Int), vi (1 : Int), vi (1 : Int)]), some (v0)]) (bl := [some (.cells [vi a1, vi a2, vi a3] 50)]) (ob := [(dP (instr_kindP7 #[vi a0] (a0)    1), true)]) rfl rfl (show rids (instr_CheckC 1).2 = [] from rfl) (by kernel_rfl) (obs_cons (dP_of (instr_kindC7 #[vi a0] (a0)   N c0  1 rfl (by decide) (by decide))) obs_nil) rfl (by decide) (by rfl) ⟨rr, ⟨rr, ⟨⟨Eq.trans (show (Value.agg #[vi ((1 : Nat) : Int), vi ((1 : Nat) : Int), vi ((1 : Nat) : Int)] : Value) = Value.agg #[vi (1 : Int), vi (1 : Int), vi (1 : Int)] from (agg_eq (cons_eq (congrArg (Value.int .i64) (by first | rfl | omega)) (cons_eq (congrArg (Value.int .i64) (by first | rfl | omega)) (cons_eq (congrArg (Value.int .i64) (by first | rfl | omega)) rfl))))) (by rfl), by rfl⟩, ⟨rr, trivial⟩⟩⟩⟩ ⟨⟨rfl, ⟨[], by rfl⟩, by rfl⟩, trivial⟩
 | r8 =>
  exact Mach.en_head (bK := instr_CheckC 1) (M := instr_CheckM a0 a1 a2 a3 N) (cd := 1000000) (cm := 0) (y := (.h1m0 (4) (0) (0) : instr_CheckX)) (fu := 4000) (orc := (orcw [] [] [] [] [(0, (instr_kindT8 (a0)    1))])) (live := [2]) (tv := [some (vp 2 0), some (v0), some (Value.agg #[vi (4 : Int), v0, v0]), some (v0)]) (bl := [some (.cells [vi a1, vi a2, vi a3] 50)]) (ob := [(dP (instr_kindP8 #[vi a0] (a0)    1), true)]) rfl rfl (show rids (instr_CheckC 1).2 = [] from rfl) (by kernel_rfl) (obs_cons (dP_of (instr_kindC8 #[vi a0] (a0)   N c0  1 rfl (by decide) (by decide))) obs_nil) rfl (by decide) (by rfl) ⟨rr, ⟨rr, ⟨⟨Eq.trans (show (Value.agg #[vi ((4 : Nat) : Int), vi ((0 : Nat) : Int), vi ((0 : Nat) : Int)] : Value) = Value.agg #[vi (4 : Int), v0, v0] from (agg_eq (cons_eq (congrArg (Value.int .i64) (by first | rfl | omega)) (cons_eq (congrArg (Value.int .i64) (by first | rfl | omega)) (cons_eq (congrArg (Value.int .i64) (by first | rfl | omega)) rfl))))) (by rfl), by rfl⟩, ⟨rr, trivial⟩⟩⟩⟩ ⟨⟨rfl, ⟨[], by rfl⟩, by rfl⟩, trivial⟩
 | r9 =>
  exact Mach.en_head (bK := instr_CheckC 1) (M := instr_CheckM a0 a1 a2 a3 N) (cd := 1000000) (cm := 0) (y := (.h1m0 (1) (4) (0) : instr_CheckX)) (fu := 4000) (orc := (orcw [] [] [] [] [(0, (instr_kindT9 (a0)    1))])) (live := [2]) (tv := [some (vp 2 0), some (v0), some (Value.agg #[vi (1 : Int), vi (4 : Int), v0]), some (v0)]) (bl := [some (.cells [vi a1, vi a2, vi a3] 50)]) (ob := [(dP (instr_kindP9 #[vi a0] (a0)    1), true)]) rfl rfl (show rids (instr_CheckC 1).2 = [] from rfl) (by kernel_rfl) (obs_cons (dP_of (instr_kindC9 #[vi a0] (a0)   N c0  1 rfl (by decide) (by decide))) obs_nil) rfl (by decide) (by rfl) ⟨rr, ⟨rr, ⟨⟨Eq.trans (show (Value.agg #[vi ((1 : Nat) : Int), vi ((4 : Nat) : Int), vi ((0 : Nat) : Int)] : Value) = Value.agg #[vi (1 : Int), vi (4 : Int), v0] from (agg_eq (cons_eq (congrArg (Value.int .i64) (by first | rfl | omega)) (cons_eq (congrArg (Value.int .i64) (by first | rfl | omega)) (cons_eq (congrArg (Value.int .i64) (by first | rfl | omega)) rfl))))) (by rfl), by rfl⟩, ⟨rr, trivial⟩⟩⟩⟩ ⟨⟨rfl, ⟨[], by rfl⟩, by rfl⟩, trivial⟩
 | r10 =>
  exact Mach.en_head (bK := instr_CheckC 1) (M := instr_CheckM a0 a1 a2 a3 N) (cd := 1000000) (cm := 0) (y := (.h1m0 (1) (0) (0) : instr_CheckX)) (fu := 4000) (orc := (orcw [] [] [] [] [(0, (instr_kindT10 (a0)    1))])) (live := [2]) (tv := [some (vp 2 0), some (v0), some (Value.agg #[vi (1 : Int), v0, v0]), some (v0)]) (bl := [some (.cells [vi a1, vi a2, vi a3] 50)]) (ob := [(dP (instr_kindP10 #[vi a0] (a0)    1), true)]) rfl rfl (show rids (instr_CheckC 1).2 = [] from rfl) (by kernel_rfl) (obs_cons (dP_of (instr_kindC10 #[vi a0] (a0)   N c0  1 rfl (by decide) (by decide))) obs_nil) rfl (by decide) (by rfl) ⟨rr, ⟨rr, ⟨⟨Eq.trans (show (Value.agg #[vi ((1 : Nat) : Int), vi ((0 : Nat) : Int), vi ((0 : Nat) : Int)] : Value) = Value.agg #[vi (1 : Int), v0, v0] from (agg_eq (cons_eq (congrArg (Value.int .i64) (by first | rfl | omega)) (cons_eq (congrArg (Value.int .i64) (by first | rfl | omega)) (cons_eq (congrArg (Value.int .i64) (by first | rfl | omega)) rfl))))) (by rfl), by rfl⟩, ⟨rr, trivial⟩⟩⟩⟩ ⟨⟨rfl, ⟨[], by rfl⟩, by rfl⟩, trivial⟩
 | r11 =>
  exact Mach.en_head (bK := instr_CheckC 1) (M := instr_CheckM a0 a1 a2 a3 N) (cd := 1000000) (cm := 0) (y := (.h1m0 (1) (3) (5) : instr_CheckX)) (fu := 4000) (orc := (orcw [] [] [] [] [(0, (instr_kindT11 (a0)    1))])) (live := [2]) (tv := [some (vp 2 0), some (v0), some (Value.agg #[vi (1 : Int), vi (3 : Int), vi (5 : Int)]), some (v0)]) (bl := [some (.cells [vi a1, vi a2, vi a3] 50)]) (ob := [(dP (instr_kindP11 #[vi a0] (a0)    1), true)]) rfl rfl (show rids (instr_CheckC 1).2 = [] from rfl) (by kernel_rfl) (obs_cons (dP_of (instr_kindC11 #[vi a0] (a0)   N c0  1 rfl (by decide) (by decide))) obs_nil) rfl (by decide) (by rfl) ⟨rr, ⟨rr, ⟨⟨Eq.trans (show (Value.agg #[vi ((1 : Nat) : Int), vi ((3 : Nat) : Int), vi ((5 : Nat) : Int)] : Value) = Value.agg #[vi (1 : Int), vi (3 : Int), vi (5 : Int)] from (agg_eq (cons_eq (congrArg (Value.int .i64) (by first | rfl | omega)) (cons_eq (congrArg (Value.int .i64) (by first | rfl | omega)) (cons_eq (congrArg (Value.int .i64) (by first | rfl | omega)) rfl))))) (by rfl), by rfl⟩, ⟨rr, trivial⟩⟩⟩⟩ ⟨⟨rfl, ⟨[], by rfl⟩, by rfl⟩, trivial⟩
 | r12 =>
  exact Mach.en_head (bK := instr_CheckC 1) (M := instr_CheckM a0 a1 a2 a3 N) (cd := 1000000) (cm := 0) (y := (.h1m0 (1) (0) (0) : instr_CheckX)) (fu := 4000) (orc := (orcw [] [] [] [] [(0, (instr_kindT12 (a0)    1))])) (live := [2]) (tv := [some (vp 2 0), some (v0), some (Value.agg #[vi (1 : Int), v0, v0]), some (v0)]) (bl := [some (.cells [vi a1, vi a2, vi a3] 50)]) (ob := [(dP (instr_kindP12 #[vi a0] (a0)    1), true)]) rfl rfl (show rids (instr_CheckC 1).2 = [] from rfl) (by kernel_rfl) (obs_cons (dP_of (instr_kindC12 #[vi a0] (a0)   N c0  1 rfl (by decide) (by decide))) obs_nil) rfl (by decide) (by rfl) ⟨rr, ⟨rr, ⟨⟨Eq.trans (show (Value.agg #[vi ((1 : Nat) : Int), vi ((0 : Nat) : Int), vi ((0 : Nat) : Int)] : Value) = Value.agg #[vi (1 : Int), v0, v0] from (agg_eq (cons_eq (congrArg (Value.int .i64) (by first | rfl | omega)) (cons_eq (congrArg (Value.int .i64) (by first | rfl | omega)) (cons_eq (congrArg (Value.int .i64) (by first | rfl | omega)) rfl))))) (by rfl), by rfl⟩, ⟨rr, trivial⟩⟩⟩⟩ ⟨⟨rfl, ⟨[], by rfl⟩, by rfl⟩, trivial⟩
 | r13 =>
  exact Mach.en_head (bK := instr_CheckC 1) (M := instr_CheckM a0 a1 a2 a3 N) (cd := 1000000) (cm := 0) (y := (.h1m0 (1) (1) (2) : instr_CheckX)) (fu := 4000) (orc := (orcw [] [] [] [] [(0, (instr_kindT13 (a0)    1))])) (live := [2]) (tv := [some (vp 2 0), some (v0), some (Value.agg #[vi (1 : Int), vi (1 : Int), vi (2 : Int)]), some (v0)]) (bl := [some (.cells [vi a1, vi a2, vi a3] 50)]) (ob := [(dP (instr_kindP13 #[vi a0] (a0)    1), true)]) rfl rfl (show rids (instr_CheckC 1).2 = [] from rfl) (by kernel_rfl) (obs_cons (dP_of (instr_kindC13 #[vi a0] (a0)   N c0  1 rfl (by decide) (by decide))) obs_nil) rfl (by decide) (by rfl) ⟨rr, ⟨rr, ⟨⟨Eq.trans (show (Value.agg #[vi ((1 : Nat) : Int), vi ((1 : Nat) : Int), vi ((2 : Nat) : Int)] : Value) = Value.agg #[vi (1 : Int), vi (1 : Int), vi (2 : Int)] from (agg_eq (cons_eq (congrArg (Value.int .i64) (by first | rfl | omega)) (cons_eq (congrArg (Value.int .i64) (by first | rfl | omega)) (cons_eq (congrArg (Value.int .i64) (by first | rfl | omega)) rfl))))) (by rfl), by rfl⟩, ⟨rr, trivial⟩⟩⟩⟩ ⟨⟨rfl, ⟨[], by rfl⟩, by rfl⟩, trivial⟩
 | r14 =>
  exact Mach.en_head (bK := instr_CheckC 1) (M := instr_CheckM a0 a1 a2 a3 N) (cd := 1000000) (cm := 0) (y := (.h1m0 (1) (2) (1) : instr_CheckX)) (fu := 4000) (orc := (orcw [] [] [] [] [(0, (instr_kindT14 (a0)    1))])) (live := [2]) (tv := [some (vp 2 0), some (v0), some (Value.agg #[vi (1 : Int), vi (2 : Int), vi (1 : Int)]), some (v0)]) (bl := [some (.cells [vi a1, vi a2, vi a3] 50)]) (ob := [(dP (instr_kindP14 #[vi a0] (a0)    1), true)]) rfl rfl (show rids (instr_CheckC 1).2 = [] from rfl) (by kernel_rfl) (obs_cons (dP_of (instr_kindC14 #[vi a0] (a0)   N c0  1 rfl (by decide) (by decide))) obs_nil) rfl (by decide) (by rfl) ⟨rr, ⟨rr, ⟨⟨Eq.trans (show (Value.agg #[vi ((1 : Nat) : Int), vi ((2 : Nat) : Int), vi ((1 : Nat) : Int)] : Value) = Value.agg #[vi (1 : Int), vi (2 : Int), vi (1 : Int)] from (agg_eq (cons_eq (congrArg (Value.int .i64) (by first | rfl | omega)) (cons_eq (congrArg (Value.int .i64) (by first | rfl | omega)) (cons_eq (congrArg (Value.int .i64) (by first | rfl | omega)) rfl))))) (by rfl), by rfl⟩, ⟨rr, trivial⟩⟩⟩⟩ ⟨⟨rfl, ⟨[], by rfl⟩, by rfl⟩, trivial⟩
 | r15 =>
  exact Mach.en_head (bK := instr_CheckC 1) (M := instr_CheckM a0 a1 a2 a3 N) (cd := 1000000) (cm := 0) (y := (.h1m0 (0) (0) (0) : instr_CheckX)) (fu := 4000) (orc := (orcw [] [] [] [] [(0, (instr_kindT15 (a0)    1))])) (live := [2]) (tv := [some (vp 2 0), some (v0), some (Value.agg #[v0, v0, v0]), some (v0)]) (bl := [some (.cells [vi a1, vi a2, vi a3] 50)]) (ob := [(dP (instr_kindP15 #[vi a0] (a0)    1), true)]) rfl rfl (show rids (instr_CheckC 1).2 = [] from rfl) (by kernel_rfl) (obs_cons (dP_of (instr_kindC15 #[vi a0] (a0)   N c0  1 rfl (by decide) (by decide))) obs_nil) rfl (by decide) (by rfl) ⟨rr, ⟨rr, ⟨⟨Eq.trans (show (Value.agg #[vi ((0 : Nat) : Int), vi ((0 : Nat) : Int), vi ((0 : Nat) : Int)] : Value) = Value.agg #[v0, v0, v0] from (agg_eq (cons_eq (congrArg (Value.int .i64) (by first | rfl | omega)) (cons_eq (congrArg (Value.int .i64) (by first | rfl | omega)) (cons_eq (congrArg (Value.int .i64) (by first | rfl | omega)) rfl))))) (by rfl), by rfl⟩, ⟨rr, trivial⟩⟩⟩⟩ ⟨⟨rfl, ⟨[], by rfl⟩, by rfl⟩, trivial⟩
 | r16 =>
  exact Mach.en_head (bK := instr_CheckC 1) (M := instr_CheckM a0 a1 a2 a3 N) (cd := 1000000) (cm := 0) (y := (.h1m0 (0) (0) (0) : instr_CheckX)) (fu := 4000) (orc := (orcw [] [] [] [] [(0, (instr_kindT16 (a0)    1))])) (live := [2]) (tv := [some (vp 2 0), some (v0), some (Value.agg #[v0, v0, v0]), some (v0)]) (bl := [some (.cells [vi a1, vi a2, vi a3] 50)]) (ob := [(dP (instr_kindP16 #[vi a0] (a0)    1), true)]) rfl rfl (show rids (instr_CheckC 1).2 = [] from rfl) (by kernel_rfl) (obs_cons (dP_of (instr_kindC16 #[vi a0] (a0)   N c0  1 rfl (by decide) (by decide))) obs_nil) rfl (by decide) (by rfl) ⟨rr, ⟨rr, ⟨⟨Eq.trans (show (Value.agg #[vi ((0 : Nat) : Int), vi ((0 : Nat) : Int), vi ((0 : Nat) : Int)] : Value) = Value.agg #[v0, v0, v0] from (agg_eq (cons_eq (congrArg (Value.int .i64) (by first | rfl | omega)) (cons_eq (congrArg (Value.int .i64) (by first | rfl | omega)) (cons_eq (congrArg (Value.int .i64) (by first | rfl | omega)) rfl))))) (by rfl), by rfl⟩, ⟨rr, trivial⟩⟩⟩⟩ ⟨⟨rfl, ⟨[], by rfl⟩, by rfl⟩, trivial⟩
 | r17 =>
  exact Mach.en_head (bK := instr_CheckC 1) (M := instr_CheckM a0 a1 a2 a3 N) (cd := 1000000) (cm := 0) (y := (.h1m0 (0) (0) (0) : instr_CheckX)) (fu := 4000) (orc := (orcw [] [] [] [] [(0, (instr_kindT17 (a0)    1))])) (live := [2]) (tv := [some (vp 2 0), some (v0), some (Value.agg #[v0, v0, v0]), some (v0)]) (bl := [some (.cells [vi a1, vi a2, vi a3] 50)]) (ob := [(dP (instr_kindP17 #[vi a0] (a0)    1), true)]) rfl rfl (show rids (instr_CheckC 1).2 = [] from rfl) (by kernel_rfl) (obs_cons (dP_of (instr_kindC17 #[vi a0] (a0)   N c0  1 rfl (by decide) (by decide))) obs_nil) rfl (by decide) (by rfl) ⟨rr, ⟨rr, ⟨⟨Eq.trans (show (Value.agg #[vi ((0 : Nat) : Int), vi ((0 : Nat) : Int), vi ((0 : Nat) : Int)] : Value) = Value.agg #[v0, v0, v0] from (agg_eq (cons_eq (congrArg (Value.int .i64) (by first | rfl | omega)) (cons_eq (congrArg (Value.int .i64) (by first | rfl | omega)) (cons_eq (congrArg (Value.int .i64) (by first | rfl | omega)) rfl))))) (by rfl), by rfl⟩, ⟨rr, trivial⟩⟩⟩⟩ ⟨⟨rfl, ⟨[], by rfl⟩, by rfl⟩, trivial⟩
 | r18 =>
  exact Mach.en_head (bK := instr_CheckC 1) (M := instr_CheckM a0 a1 a2 a3 N) (cd := 1000000) (cm := 0) (y := (.h1m0 (0) (0) (0) : instr_CheckX)) (fu := 4000) (orc := (orcw [] [] [] [] [(0, (instr_kindT18 (a0)    1))])) (live := [2]) (tv := [some (vp 2 0), some (v0), some (Value.agg #[v0, v0, v0]), some (v0)]) (bl := [some (.cells [vi a1, vi a2, vi a3] 50)]) (ob := [(dP (instr_kindP18 #[vi a0] (a0)    1), true)]) rfl rfl (show rids (instr_CheckC 1).2 = [] from rfl) (by kernel_rfl) (obs_cons (dP_of (instr_kindC18 #[vi a0] (a0)   N c0  1 rfl (by decide) (by decide))) obs_nil) rfl (by decide) (by rfl) ⟨rr, ⟨rr, ⟨⟨Eq.trans (show (Value.agg #[vi ((0 : Nat) : Int), vi ((0 : Nat) : Int), vi ((0 : Nat) : Int)] : Value) = Value.agg #[v0, v0, v0] from (agg_eq (cons_eq (congrArg (Value.int .i64) (by first | rfl | omega)) (cons_eq (congrArg (Value.int .i64) (by first | rfl | omega)) (cons_eq (congrArg (Value.int .i64) (by first | rfl | omega)) rfl))))) (by rfl), by rfl⟩, ⟨rr, trivial⟩⟩⟩⟩ ⟨⟨rfl, ⟨[], by rfl⟩, by rfl⟩, trivial⟩
 | r19 =>
  exact Mach.en_head (bK := instr_CheckC 1) (M := instr_CheckM a0 a1 a2 a3 N) (cd := 1000000) (cm := 0) (y := (.h1m0 (1) (0) (0) : instr_CheckX)) (fu := 4000) (orc := (orcw [] [] [] [] [(0, (instr_kindT19 (a0)    1))])) (live := [2]) (tv := [some (vp 2 0), some (v0), some (Value.agg #[vi (1 : Int), v0, v0]), some (v0)]) (bl := [some (.cells [vi a1, vi a2, vi a3] 50)]) (ob := [(dP (instr_kindP19 #[vi a0] (a0)    1), true)]) rfl rfl (show rids (instr_CheckC 1).2 = [] from rfl) (by kernel_rfl) (obs_cons (dP_of (instr_kindC19 #[vi a0] (a0)   N c0  1 rfl (by decide) (by decide))) obs_nil) rfl (by decide) (by rfl) ⟨rr, ⟨rr, ⟨⟨Eq.trans (show (Value.agg #[vi ((1 : Nat) : Int), vi ((0 : Nat) : Int), vi ((0 : Nat) : Int)] : Value) = Value.agg #[vi (1 : Int), v0, v0] from (agg_eq (cons_eq (congrArg (Value.int .i64) (by first | rfl | omega)) (cons_eq (congrArg (Value.int .i64) (by first | rfl | omega)) (cons_eq (congrArg (Value.int .i64) (by first | rfl | omega)) rfl))))) (by rfl), by rfl⟩, ⟨rr, trivial⟩⟩⟩⟩ ⟨⟨rfl, ⟨[], by rfl⟩, by rfl⟩, trivial⟩
 | r20 =>
  exact Mach.en_head (bK := instr_CheckC 1) (M := instr_CheckM a0 a1 a2 a3 N) (cd := 1000000) (cm := 0) (y := (.h1m0 (0) (0) (0) : instr_CheckX)) (fu := 4000) (orc := (orcw [] [] [] [] [(0, (instr_kindT20 (a0)    1))])) (live := [2]) (tv := [some (vp 2 0), some (v0), some (Value.agg #[v0, v0, v0]), some (v0)]) (bl := [some (.cells [vi a1, vi a2, vi a3] 50)]) (ob := [(dP (instr_kindP20 #[vi a0] (a0)    1), true)]) rfl rfl (show rids (instr_CheckC 1).2 = [] from rfl) (by kernel_rfl) (obs_cons (dP_of (instr_kindC20 #[vi a0] (a0)   N c0  1 rfl (by decide) (by decide))) obs_nil) rfl (by decide) (by rfl) ⟨rr, ⟨rr, ⟨⟨Eq.trans (show (Value.agg #[vi ((0 : Nat) : Int), vi ((0 : Nat) : Int), vi ((0 : Nat) : Int)] : Value) = Value.agg #[v0, v0, v0] from (agg_eq (cons_eq (congrArg (Value.int .i64) (by first | rfl | omega)) (cons_eq (congrArg (Value.int .i64) (by first | rfl | omega)) (cons_eq (congrArg (Value.int .i64) (by first | rfl | omega)) rfl))))) (by rfl), by rfl⟩, ⟨rr, trivial⟩⟩⟩⟩ ⟨⟨rfl, ⟨[], by rfl⟩, by rfl⟩, trivial⟩

theorem instr_Check_spec (a0 a1 a2 a3 : Int) (N : Nat) (r : instr_CheckR) (h : instr_Check a0 a1 a2 a3 N = some r) : LSpec Try.prog 14 #[Value.agg #[vi a0, vi a1, vi a2, vi a3]] [] (instr_CheckV a0 a1 a2 a3 r) (instr_CheckPo a0 a1 a2 a3 r) :=
 Mach.spec fit_Pp (instr_CheckM a0 a1 a2 a3 N) Try.func14 (by kernel_rfl) (by kernel_rfl) (fun x => by cases x <;> exact le_far _ rfl) (fun r => by cases r <;> exact le_far _ rfl) (fun x => by
  cases x with
  | h1m0 _ _ _ => exact fun _ => (show ¬ (1 ∈ rids (instr_CheckC 1).2) from by decide +kernel)
  | h1m1 _ _ _ => exact fun _ => (show ¬ (1 ∈ rids (instr_CheckC 1).2) from by decide +kernel)
  | h1m2 _ _ _ => exact fun _ => (show ¬ (1 ∈ rids (instr_CheckC 1).2) from by decide +kernel)
  | h1m3 _ _ _ => exact fun _ => (show ¬ (1 ∈ rids (instr_CheckC 1).2) from by decide +kernel)
  ) (fun x => (show (instr_CheckM a0 a1 a2 a3 N).Ok Try.prog ext_Pp x (instr_CheckStep a0 a1 a2 a3 N x) from by
  cases x with
  | h1m0 v1 v2 v3 => exact instr_Check_ok1_0 a0 a1 a2 a3 v1 v2 v3 N
  | h1m1 v1 v2 v3 => exact instr_Check_ok1_1 a0 a1 a2 a3 v1 v2 v3 N
  | h1m2 v1 v2 v3 => exact instr_Check_ok1_2 a0 a1 a2 a3 v1 v2 v3 N
  | h1m3 v1 v2 v3 => exact instr_Check_ok1_3 a0 a1 a2 a3 v1 v2 v3 N
  )) (instr_Check_en a0 a1 a2 a3 N) (n := N) h

noncomputable def instr_CheckT0 (a0 a1 a2 a3 w0 : Int) (n : Nat) : Told := .call [] (vi w0) [] 0
def instr_CheckP0 (A : Array Value) (a0 a1 a2 a3 w0 : Int) (n : Nat) : Prop := CallSpec Try.prog 14 A [] (vi w0) [] n 0

theorem instr_CheckC0 (A : Array Value) (a0 a1 a2 a3 w0 : Int) (N : Nat) (h : instr_Check a0 a1 a2 a3 N = some (.r0 w0)) (n : Nat) (hA : A = #[Value.agg #[vi a0, vi a1, vi a2, vi a3]]) (hnd : ([] : List Nat).Nodup) (hlt : ∀ k ∈ ([] : List Nat), k < n) : instr_CheckP0 A a0 a1 a2 a3 w0  n :=
 cs_args hA (LSpec.callL (show LSpec Try.prog 14 #[Value.agg #[vi a0, vi a1, vi a2, vi a3]] [] (vi w0) [] from instr_Check_spec a0 a1 a2 a3 N _ h) [] n [] rfl hnd hlt (show 0 ≤ 0 from by decide) (show ∀ j ∈ ([] : List Nat), j < 0 from by decide) (by rfl) trivial (by rfl) trivial trivial rfl rfl rfl rfl rfl)

noncomputable def instr_AimV (a0 a1 a2 a3 a4 : Int) : instr_AimR → Value
 | .r0 w1 w2 => Value.agg #[vi a0, vi w1, vi w2, vi a3]
noncomputable def instr_AimPo (a0 a1 a2 a3 a4 : Int) : instr_AimR → List (Option AObj)
 | .r0 w1 w2 => []

theorem instr_Aim_fx (a0 a1 a2 a3 a4 : Int) (N : Nat) : Fx Try.prog ext_Pp Try.f15 [] #[Value.agg #[vi a0, vi a1, vi a2, vi a3], vi a4] (instr_AimV a0 a1 a2 a3 a4) (instr_AimPo a0 a1 a2 a3 a4) (instr_Aim a0 a1 a2 a3 a4 N) := by
 unfold instr_Aim
 refine fx_ite (fun g0 => ?_) (fun g0 => ?_)
 ·
  exact fx_fin (r := (.r0 (a4) (a2) : instr_AimR)) (fu := 4000) (orc := (orcw [(0, true)] [] [] [] [])) (live := []) (u := Value.agg #[vi a0, vi a4, vi a2, vi a3]) (bl := []) (ob := [((a0 == (8 : Int)), true)]) (by kernel_rfl) (oT obs_nil) rfl (by decide) (by rfl) rr trivial
 ·
  refine fx_ite (fun g1 => ?_) (fun g1 => ?_)
  ·
   exact fx_fin (r := (.r0 (a1) (a4) : instr_AimR)) (fu := 4000) (orc := (orcw [(0, false), (1, true)] [] [] [] [])) (live := []) (u := Value.agg #[vi a0, vi a1, vi a4, vi a3]) (bl := []) (ob := [((a0 == (9 : Int)), true), ((a0 == (8 : Int)), false)]) (by kernel_rfl) (oT <| oF obs_nil) rfl (by decide) (by rfl) rr trivial
  ·
   exact fx_fin (r := (.r0 (a1) (a2) : instr_AimR)) (fu := 4000) (orc := (orcw [(0, false), (1, false)] [] [] [] [])) (live := []) (u := Value.agg #[vi a0, vi a1, vi a2, vi a3]) (bl := []) (ob := [((a0 == (9 : Int)), false), ((a0 == (8 : Int)), false)]) (by kernel_rfl) (oF <| oF obs_nil) rfl (by decide) (by rfl) rr trivial

theorem instr_Aim_spec (a0 a1 a2 a3 a4 : Int) (N : Nat) (r : instr_AimR) (h : instr_Aim a0 a1 a2 a3 a4 N = some r) : LSpec Try.prog 15 #[Value.agg #[vi a0, vi a1, vi a2, vi a3], vi a4] [] (instr_AimV a0 a1 a2 a3 a4 r) (instr_AimPo a0 a1 a2 a3 a4 r) :=
 fx_spec fit_Pp Try.func15 (by kernel_rfl) (by kernel_rfl) (fun r => by cases r <;> exact le_far _ rfl) (instr_Aim_fx a0 a1 a2 a3 a4 N) h

noncomputable def instr_AimT0 (a0 a1 a2 a3 a4 w1 w2 : Int) (n : Nat) : Told := .call [] (Value.agg #[vi a0, vi w1, vi w2, vi a3]) [] 0
def instr_AimP0 (A : Array Value) (a0 a1 a2 a3 a4 w1 w2 : Int) (n : Nat) : Prop := CallSpec Try.prog 15 A [] (Value.agg #[vi a0, vi w1, vi w2, vi a3]) [] n 0

theorem instr_AimC0 (A : Array Value) (a0 a1 a2 a3 a4 w1 w2 : Int) (N : Nat) (h : instr_Aim a0 a1 a2 a3 a4 N = some (.r0 w1 w2)) (n : Nat) (hA : A = #[Value.agg #[vi a0, vi a1, vi a2, vi a3], vi a4]) (hnd : ([] : List Nat).Nodup) (hlt : ∀ k ∈ ([] : List Nat), k < n) : instr_AimP0 A a0 a1 a2 a3 a4 w1 w2  n :=
 cs_args hA (LSpec.callL (show LSpec Try.prog 15 #[Value.agg #[vi a0, vi a1, vi a2, vi a3], vi a4] [] (Value.agg #[vi a0, vi w1, vi w2, vi a3]) [] from instr_Aim_spec a0 a1 a2 a3 a4 N _ h) [] n [] rfl hnd hlt (show 0 ≤ 0 from by decide) (show ∀ j ∈ ([] : List Nat), j < 0 from by decide) (by rfl) trivial (by rfl) trivial trivial rfl rfl rfl rfl rfl)

noncomputable def prog_LinkV (o0 : Nat) (L1 : List R_iiii) (n2 n3 o4 : Nat) (L5 : List R_iiii) (n6 n7 : Nat) (O1 O2 : Obj) : prog_LinkR → Value
 | .r0 w4 => Value.tuple #[vn, vi w4]
 | .r1 w4 => Value.tuple #[vs 3 0 w4.length w4.length, v0]
noncomputable def prog_LinkPo (o0 : Nat) (L1 : List R_iiii) (n2 n3 o4 : Nat) (L5 : List R_iiii) (n6 n7 : Nat) (O1 O2 : Obj) : prog_LinkR → List (Option AObj)
 | .r0 w4 => [some (.cells [vs 1 o0 n2 n3, vs 2 o4 n6 n7] 22), some (.ro O1), some (.ro O2)]
 | .r1 w4 => [some (.cells [vs 1 o0 n2 n3, vs 2 o4 n6 n7] 22), some (.ro O1), some (.ro O2), some (.cells (rowV E_iiii w4) 35)]

def prog_LinkHd : prog_LinkX → Nat
 | .h1m0 v4 v6 => 1
 | .h2m0 v5 => 2
 | .h2m1 v4 v6 => 2
 | .h3m0 v8 => 3
 | .h3m1 v4 v7 v9 v13 => 3
 | .h3m2 v8 => 3
 | .h3m3 v4 v7 v9 v13 => 3
noncomputable def prog_LinkL (o0 : Nat) (L1 : List R_iiii) (n2 n3 o4 : Nat) (L5 : List R_iiii) (n6 n7 : Nat) (O1 O2 : Obj) : prog_LinkX → List (Nat × Value)
 | .h1m0 v4 v6 => [(0, vs 0 0 2 2), (4, vi (v4 : Int)), (15, vs 0 0 2 2), (16, vi (2 : Int)), (17, vi (v6 : Int))]
 | .h2m0 v5 => [(7, vn), (28, vs 0 0 2 2), (29, vi (2 : Int)), (30, vi (v5 : Int))]
 | .h2m1 v4 v6 => [(7, vs 3 0 v4.length v4.length), (28, vs 0 0 2 2), (29, vi (2 : Int)), (30, vi (v6 : Int))]
 | .h3m0 v8 => [(7, vn), (9, vs 1 o0 n2 n3), (10, v0), (28, vs 0 0 2 2), (29, vi (2 : Int)), (30, vi (v8 : Int)), (36, vs 1 o0 n2 n3), (37, vi (n2 : Int)), (38, v0)]
 | .h3m1 v4 v7 v9 v13 => [(7, vs 3 0 v4.length v4.length), (9, vs 1 o0 n2 n3), (10, vi (v7 : Int)), (28, vs 0 0 2 2), (29, vi (2 : Int)), (30, vi (v9 : Int)), (36, vs 1 o0 n2 n3), (37, vi (n2 : Int)), (38, vi (v13 : Int))]
 | .h3m2 v8 => [(7, vn), (9, vs 2 o4 n6 n7), (10, v0), (28, vs 0 0 2 2), (29, vi (2 : Int)), (30, vi (v8 : Int)), (36, vs 2 o4 n6 n7), (37, vi (n6 : Int)), (38, v0)]
 | .h3m3 v4 v7 v9 v13 => [(7, vs 3 0 v4.length v4.length), (9, vs 2 o4 n6 n7), (10, vi (v7 : Int)), (28, vs 0 0 2 2), (29, vi (2 : Int)), (30, vi (v9 : Int)), (36, vs 2 o4 n6 n7), (37, vi (n6 : Int)), (38, vi (v13 : Int))]
noncomputable def prog_LinkH (o0 : Nat) (L1 : List R_iiii) (n2 n3 o4 : Nat) (L5 : List R_iiii) (n6 n7 : Nat) (O1 O2 : Obj) : prog_LinkX → List (Option AObj)
 | .h1m0 v4 v6 => [some (.cells [vs 1 o0 n2 n3, vs 2 o4 n6 n7] 22), some (.ro O1), some (.ro O2)]
 | .h2m0 v5 => [some (.cells [vs 1 o0 n2 n3, vs 2 o4 n6 n7] 22), some (.ro O1), some (.ro O2)]
 | .h2m1 v4 v6 => [some (.cells [vs 1 o0 n2 n3, vs 2 o4 n6 n7] 22), some (.ro O1), some (.ro O2), some (.cells (rowV E_iiii v4) 35)]
 | .h3m0 v8 => [some (.cells [vs 1 o0 n2 n3, vs 2 o4 n6 n7] 22), some (.ro O1), some (.ro O2)]
 | .h3m1 v4 v7 v9 v13 => [some (.cells [vs 1 o0 n2 n3, vs 2 o4 n6 n7] 22), some (.ro O1), some (.ro O2), some (.cells (rowV E_iiii v4) 35)]
 | .h3m2 v8 => [some (.cells [vs 1 o0 n2 n3, vs 2 o4 n6 n7] 22), some (.ro O1), some (.ro O2)]
 | .h3m3 v4 v7 v9 v13 => [some (.cells [vs 1 o0 n2 n3, vs 2 o4 n6 n7] 22), some (.ro O1), some (.ro O2), some (.cells (rowV E_iiii v4) 35)]

noncomputable def prog_LinkC : Nat → Code × List Kont
 | 1 => headOf [1, 1, 0, 1, 3] (bodyC Try.f6) []
 | 2 => headOf [1, 1, 1, 1, 1, 0, 1, 3] (bodyC Try.f6) []
 | 3 => headOf [1, 1, 1, 1, 1, 0, 1, 3, 8, 1, 1, 0, 3, 1, 1, 1, 3] (bodyC Try.f6) []
 | _ => (.skip, [])
def prog_LinkIL : Nat → Bool
 | 1 => true
 | 2 => true
 | 3 => true
 | _ => true
noncomputable def prog_LinkK (i : Nat) : List Kont := match prog_LinkIL i with | true => .rnd i :: (prog_LinkC i).2 | false => (prog_LinkC i).2

noncomputable def prog_LinkM (o0 : Nat) (L1 : List R_iiii) (n2 n3 o4 : Nat) (L5 : List R_iiii) (n6 n7 : Nat) (O1 O2 : Obj) (N : Nat) : Mach := ⟨Try.f6, [.cells [vs 1 o0 n2 n3, vs 2 o4 n6 n7] 22, .ro O1, .ro O2], prog_LinkX, prog_LinkR, prog_LinkStep L1 n2 n3 L5 n6 n7 N, prog_LinkHd, prog_LinkC, prog_LinkIL, prog_LinkL o0 L1 n2 n3 o4 L5 n6 n7 O1 O2, prog_LinkH o0 L1 n2 n3 o4 L5 n6 n7 O1 O2, prog_LinkV o0 L1 n2 n3 o4 L5 n6 n7 O1 O2, prog_LinkPo o0 L1 n2 n3 o4 L5 n6 n7 O1 O2⟩

theorem prog_Link_ok1_0 (o0 : Nat) (L1 : List R_iiii) (n2 n3 o4 : Nat) (L5 : List R_iiii) (n6 n7 : Nat) (O1 : Obj) (F1 : RO_iiii O1 o0 L1) (O2 : Obj) (F2 : RO_iiii O2 o4 L5) (v4 v6 N : Nat) : (prog_LinkM o0 L1 n2 n3 o4 L5 n6 n7 O1 O2 N).Ok Try.prog ext_Pp (.h1m0 v4 v6 : prog_LinkX) (prog_LinkStep L1 n2 n3 L5 n6 n7 N (.h1m0 v4 v6 : prog_LinkX)) := by
 show (prog_LinkM o0 L1 n2 n3 o4 L5 n6 n7 O1 O2 N).Ok Try.prog ext_Pp (.h1m0 v4 v6 : prog_LinkX) (prog_Link_h1m0 L1 n2 n3 L5 n6 n7 N v4 v6)
 unfold prog_Link_h1m0
 refine Mach.ok_ite (fun g0 => ?_) (fun g0 => ?_)
 ·
  refine Mach.ok_ite (fun g1 => ?_) (fun g1 => ?_)
  ·
   refine Mach.ok_ite (fun g2 => ?_) (fun g2 => ?_)
   ·
    exact Mach.ok_next (M := prog_LinkM o0 L1 n2 n3 o4 L5 n6 n7 O1 O2 N) (cd := 1000000) (cm := 0) (y := (.h1m0 ((v4 + n2)) ((v6 + 1)) : prog_LinkX)) (fu := 4000) (orc := (orcw [(0, true)] [(0, (((v4 + n2) : Nat) : Int)), (1, (((v6 + 1) : Nat) : Int))] [(0, 0)] [] [])) (live := [0, 1, 2]) (tv := fun _ => [some (vs 0 0 2 2), some (vi (((v4 + n2) : Nat) : Int)), some (vs 0 0 2 2), some (vi (2 : Int)), some (vi (((v6 + 1) : Nat) : Int))]) (bl := [some (.cells [vs 1 o0 n2 n3, vs 2 o4 n6 n7] 22), some (.ro O1), some (.ro O2)]) (ob := [((IntKind.i64.wrap ((v6 : Int) + (1 : Int))) == (((v6 + 1) : Nat) : Int), true), ((IntKind.i64.wrap ((v4 : Int) + (n2 : Int))) == (((v4 + n2) : Nat) : Int), true), (Nat.blt 0 2, true), ((v6 : Int) == Int.ofNat 0, true), ((decide ((v6 : Int) < (2 : Int))), true)]) rfl (show 1 ∈ rids (prog_LinkK 1) from by decide +kernel) (fun gv => by kernel_rfl) (obs_cons (beq_iff_eq.2 ((wrap_i64 ltA).trans (by first | rfl | omega))) <| obs_cons (beq_iff_eq.2 ((wrap_i64 ltA).trans (by first | rfl | omega))) <| oB <| obs_cons (beq_iff_eq.2 (show _ = ((0 : Nat) : Int) from by omega)) <| oY obs_nil) rfl (by decide) (by rfl) (fun _ => ⟨rr, ⟨rr, ⟨rr, ⟨rr, ⟨rr, trivial⟩⟩⟩⟩⟩) ⟨⟨rfl, ⟨[], by rfl⟩, by rfl⟩, ⟨rfl, ⟨rfl, trivial⟩⟩⟩
   ·
    exact Mach.ok_none
  ·
   refine Mach.ok_ite (fun g2 => ?_) (fun g2 => ?_)
   ·
    exact Mach.ok_next (M := prog_LinkM o0 L1 n2 n3 o4 L5 n6 n7 O1 O2 N) (cd := 1000000) (cm := 0) (y := (.h1m0 ((v4 + n6)) ((v6 + 1)) : prog_LinkX)) (fu := 4000) (orc := (orcw [(0, true)] [(0, (((v4 + n6) : Nat) : Int)), (1, (((v6 + 1) : Nat) : Int))] [(0, 1)] [] [])) (live := [0, 1, 2]) (tv := fun _ => [some (vs 0 0 2 2), some (vi (((v4 + n6) : Nat) : Int)), some (vs 0 0 2 2), some (vi (2 : Int)), some (vi (((v6 + 1) : Nat) : Int))]) (bl := [some (.cells [vs 1 o0 n2 n3, vs 2 o4 n6 n7] 22), some (.ro O1), some (.ro O2)]) (ob := [((IntKind.i64.wrap ((v6 : Int) + (1 : Int))) == (((v6 + 1) : Nat) : Int), true), ((IntKind.i64.wrap ((v4 : Int) + (n6 : Int))) == (((v4 + n6) : Nat) : Int), true), (Nat.blt 1 2, true), ((v6 : Int) == Int.ofNat 1, true), ((decide ((v6 : Int) < (2 : Int))), true)]) rfl (show 1 ∈ rids (prog_LinkK 1) from by decide +kernel) (fun gv => by kernel_rfl) (obs_cons (beq_iff_eq.2 ((wrap_i64 ltA).trans (by first | rfl | omega))) <| obs_cons (beq_iff_eq.2 ((wrap_i64 ltA).trans (by first | rfl | omega))) <| oB <| obs_cons (beq_iff_eq.2 (show _ = ((1 : Nat) : Int) from by omega)) <| oY obs_nil) rfl (by decide) (by rfl) (fun _ => ⟨rr, ⟨rr, ⟨rr, ⟨rr, ⟨rr, trivial⟩⟩⟩⟩⟩) ⟨⟨rfl, ⟨[], by rfl⟩, by rfl⟩, ⟨rfl, ⟨rfl, trivial⟩⟩⟩
   ·
    exact Mach.ok_none
 ·
  refine Mach.ok_ite (fun g1 => ?_) (fun g1 => ?_)
  ·
   exact Mach.ok_fin (M := prog_LinkM o0 L1 n2 n3 o4 L5 n6 n7 O1 O2 N) (cd := 1000000) (cm := 0) (r := (.r0 ((3 : Int)) : prog_LinkR)) (fu := 4000) (orc := (orcw [(0, false), (1, true)] [] [] [] [])) (live := [0, 1, 2]) (u := Value.tuple #[vn, vi (3 : Int)]) (bl := [some (.cells [vs 1 o0 n2 n3, vs 2 o4 n6 n7] 22), some (.ro O1), some (.ro O2)]) (ob := [((decide ((v4 : Int) > (512 : Int))), true), ((decide ((v6 : Int) < (2 : Int))), false)]) (fun gv => by kernel_rfl) (oY <| oN obs_nil) rfl (by decide) (by rfl) rr ⟨⟨rfl, ⟨[], by rfl⟩, by rfl⟩, ⟨rfl, ⟨rfl, trivial⟩⟩⟩
  ·
   exact Mach.ok_head (bK := prog_LinkC 2) (M := prog_LinkM o0 L1 n2 n3 o4 L5 n6 n7 O1 O2 N) (cd := 1000000) (cm := 0) (y := (.h2m0 (0) : prog_LinkX)) (fu := 4000) (orc := (orcw [(0, false), (1, false)] [] [] [] [])) (live := [0, 1, 2]) (tv := fun _ => [some (vn), some (vs 0 0 2 2), some (vi (2 : Int)), some (v0)]) (bl := [some (.cells [vs 1 o0 n2 n3, vs 2 o4 n6 n7] 22), some (.ro O1), some (.ro O2)]) (ob := [((decide ((v4 : Int) > (512 : Int))), false), ((decide ((v6 : Int) < (2 : Int))), false)]) rfl rfl (show ∀ j ∈ rids (prog_LinkC 2).2, j ∈ rids (prog_LinkK 1) from by decide +kernel) (fun gv => by kernel_rfl) (oN <| oN obs_nil) rfl (by decide) (by rfl) (fun _ => ⟨rr, ⟨rr, ⟨rr, ⟨⟨Eq.trans (show (vi ((0 : Nat) : Int) : Value) = v0 from (congrArg (Value.int .i64) (by first | rfl | omega))) (by rfl), by rfl⟩, trivial⟩⟩⟩⟩) ⟨⟨rfl, ⟨[], by rfl⟩, by rfl⟩, ⟨rfl, ⟨rfl, trivial⟩⟩⟩

theorem prog_Link_ok2_0 (o0 : Nat) (L1 : List R_iiii) (n2 n3 o4 : Nat) (L5 : List R_iiii) (n6 n7 : Nat) (O1 : Obj) (F1 : RO_iiii O1 o0 L1) (O2 : Obj) (F2 : RO_iiii O2 o4 L5) (v5 N : Nat) : (prog_LinkM o0 L1 n2 n3 o4 L5 n6 n7 O1 O2 N).Ok Try.prog ext_Pp (.h2m0 v5 : prog_LinkX) (prog_LinkStep L1 n2 n3 L5 n6 n7 N (.h2m0 v5 : prog_LinkX)) := by
 show (prog_LinkM o0 L1 n2 n3 o4 L5 n6 n7 O1 O2 N).Ok Try.prog ext_Pp (.h2m0 v5 : prog_LinkX) (prog_Link_h2m0 L1 n2 n3 L5 n6 n7 N v5)
 unfold prog_Link_h2m0
 refine Mach.ok_ite (fun g0 => ?_) (fun g0 => ?_)
 ·
  refine Mach.ok_ite (fun g1 => ?_) (fun g1 => ?_)
  ·
   exact Mach.ok_head (bK := prog_LinkC 3) (M := prog_LinkM o0 L1 n2 n3 o4 L5 n6 n7 O1 O2 N) (cd := 1000000) (cm := 0) (y := (.h3m0 (v5) : prog_LinkX)) (fu := 4000) (orc := (orcw [(0, true)] [] [(0, 0)] [] [])) (live := [0, 1, 2]) (tv := fun _ => [some (vn), some (vs 1 o0 n2 n3), some (v0), some (vs 0 0 2 2), some (vi (2 : Int)), some (vi (v5 : Int)), some (vs 1 o0 n2 n3), some (vi (n2 : Int)), some (v0)]) (bl := [some (.cells [vs 1 o0 n2 n3, vs 2 o4 n6 n7] 22), some (.ro O1), some (.ro O2)]) (ob := [(Nat.blt 0 2, true), ((v5 : Int) == Int.ofNat 0, true), ((decide ((v5 : Int) < (2 : Int))), true)]) rfl rfl (show ∀ j ∈ rids (prog_LinkC 3).2, j ∈ rids (prog_LinkK 2) from by decide +kernel) (fun gv => by kernel_rfl) (oB <| obs_cons (beq_iff_eq.2 (show _ = ((0 : Nat) : Int) from by omega)) <| oY obs_nil) rfl (by decide) (by rfl) (fun _ => ⟨rr, ⟨rr, ⟨rr, ⟨rr, ⟨rr, ⟨rr, ⟨rr, ⟨rr, ⟨rr, trivial⟩⟩⟩⟩⟩⟩⟩⟩⟩) ⟨⟨rfl, ⟨[], by rfl⟩, by rfl⟩, ⟨rfl, ⟨rfl, trivial⟩⟩⟩
  ·
   exact Mach.ok_head (bK := prog_LinkC 3) (M := prog_LinkM o0 L1 n2 n3 o4 L5 n6 n7 O1 O2 N) (cd := 1000000) (cm := 0) (y := (.h3m2 (v5) : prog_LinkX)) (fu := 4000) (orc := (orcw [(0, true)] [] [(0, 1)] [] [])) (live := [0, 1, 2]) (tv := fun _ => [some (vn), some (vs 2 o4 n6 n7), some (v0), some (vs 0 0 2 2), some (vi (2 : Int)), some (vi (v5 : Int)), some (vs 2 o4 n6 n7), some (vi (n6 : Int)), some (v0)]) (bl := [some (.cells [vs 1 o0 n2 n3, vs 2 o4 n6 n7] 22), some (.ro O1), some (.ro O2)]) (ob := [(Nat.blt 1 2, true), ((v5 : Int) == Int.ofNat 1, true), ((decide ((v5 : Int) < (2 : Int))), true)]) rfl rfl (show ∀ j ∈ rids (prog_LinkC 3).2, j ∈ rids (prog_LinkK 2) from by decide +kernel) (fun gv => by kernel_rfl) (oB <| obs_cons (beq_iff_eq.2 (show _ = ((1 : Nat) : Int) from by omega)) <| oY obs_nil) rfl (by decide) (by rfl) (fun _ => ⟨rr, ⟨rr, ⟨rr, ⟨rr, ⟨rr, ⟨rr, ⟨rr, ⟨rr, ⟨rr, trivial⟩⟩⟩⟩⟩⟩⟩⟩⟩) ⟨⟨rfl, ⟨[], by rfl⟩, by rfl⟩, ⟨rfl, ⟨rfl, trivial⟩⟩⟩
 ·
  exact Mach.ok_fin (M := prog_LinkM o0 L1 n2 n3 o4 L5 n6 n7 O1 O2 N) (cd := 1000000) (cm := 0) (r := (.r0 ((0 : Int)) : prog_LinkR)) (fu := 4000) (orc := (orcw [(0, false)] [] [] [] [])) (live := [0, 1, 2]) (u := Value.tuple #[vn, v0]) (bl := [some (.cells [vs 1 o0 n2 n3, vs 2 o4 n6 n7] 22), some (.ro O1), some (.ro O2)]) (ob := [((decide ((v5 : Int) < (2 : Int))), false)]) (fun gv => by kernel_rfl) (oN obs_nil) rfl (by decide) (by rfl) rr ⟨⟨rfl, ⟨[], by rfl⟩, by rfl⟩, ⟨rfl, ⟨rfl, trivial⟩⟩⟩

theorem prog_Link_ok2_1 (o0 : Nat) (L1 : List R_iiii) (n2 n3 o4 : Nat) (L5 : List R_iiii) (n6 n7 : Nat) (O1 : Obj) (F1 : RO_iiii O1 o0 L1) (O2 : Obj) (F2 : RO_iiii O2 o4 L5) (v4 : List R_iiii) (v6 N : Nat) : (prog_LinkM o0 L1 n2 n3 o4 L5 n6 n7 O1 O2 N).Ok Try.prog ext_Pp (.h2m1 v4 v6 : prog_LinkX) (prog_LinkStep L1 n2 n3 L5 n6 n7 N (.h2m1 v4 v6 : prog_LinkX)) := by
 show (prog_LinkM o0 L1 n2 n3 o4 L5 n6 n7 O1 O2 N).Ok Try.prog ext_Pp (.h2m1 v4 v6 : prog_LinkX) (prog_Link_h2m1 L1 n2 n3 L5 n6 n7 N v4 v6)
 unfold prog_Link_h2m1
 refine Mach.ok_ite (fun g0 => ?_) (fun g0 => ?_)
 ·
  refine Mach.ok_ite (fun g1 => ?_) (fun g1 => ?_)
  ·
   exact Mach.ok_head (bK := prog_LinkC 3) (M := prog_LinkM o0 L1 n2 n3 o4 L5 n6 n7 O1 O2 N) (cd := 1000000) (cm := 0) (y := (.h3m1 (v4) (v4.length) (v6) (0) : prog_LinkX)) (fu := 4000) (orc := (orcw [(0, true)] [] [(0, 0)] [] [])) (live := [0, 1, 2, 3]) (tv := fun _ => [some (vs 3 0 v4.length v4.length), some (vs 1 o0 n2 n3), some (vi ((v4.length : Nat) : Int)), some (vs 0 0 2 2), some (vi (2 : Int)), some (vi (v6 : Int)), some (vs 1 o0 n2 n3), some (vi (n2 : Int)), some (v0)]) (bl := [some (.cells [vs 1 o0 n2 n3, vs 2 o4 n6 n7] 22), some (.ro O1), some (.ro O2), some (.cells (rowV E_iiii v4) 35)]) (ob := [(Nat.blt 0 2, true), ((v6 : Int) == Int.ofNat 0, true), ((decide ((v6 : Int) < (2 : Int))), true)]) rfl rfl (show ∀ j ∈ rids (prog_LinkC 3).2, j ∈ rids (prog_LinkK 2) from by decide +kernel) (fun gv => by kernel_rfl) (oB <| obs_cons (beq_iff_eq.2 (show _ = ((0 : Nat) : Int) from by omega)) <| oY obs_nil) rfl (by decide) (by rfl) (fun _ => ⟨rr, ⟨rr, ⟨rr, ⟨rr, ⟨rr, ⟨rr, ⟨rr, ⟨rr, ⟨⟨Eq.trans (show (vi ((0 : Nat) : Int) : Value) = v0 from (congrArg (Value.int .i64) (by first | rfl | omega))) (by rfl), by rfl⟩, trivial⟩⟩⟩⟩⟩⟩⟩⟩⟩) ⟨⟨rfl, ⟨[], by rfl⟩, by rfl⟩, ⟨rfl, ⟨rfl, ⟨(same_row (E := E_iiii) (α := R_iiii) _ v4 _), trivial⟩⟩⟩⟩
  ·
   exact Mach.ok_head (bK := prog_LinkC 3) (M := prog_LinkM o0 L1 n2 n3 o4 L5 n6 n7 O1 O2 N) (cd := 1000000) (cm := 0) (y := (.h3m3 (v4) (v4.length) (v6) (0) : prog_LinkX)) (fu := 4000) (orc := (orcw [(0, true)] [] [(0, 1)] [] [])) (live := [0, 1, 2, 3]) (tv := fun _ => [some (vs 3 0 v4.length v4.length), some (vs 2 o4 n6 n7), some (vi ((v4.length : Nat) : Int)), some (vs 0 0 2 2), some (vi (2 : Int)), some (vi (v6 : Int)), some (vs 2 o4 n6 n7), some (vi (n6 : Int)), some (v0)]) (bl := [some (.cells [vs 1 o0 n2 n3, vs 2 o4 n6 n7] 22), some (.ro O1), some (.ro O2), some (.cells (rowV E_iiii v4) 35)]) (ob := [(Nat.blt 1 2, true), ((v6 : Int) == Int.ofNat 1, true), ((decide ((v6 : Int) < (2 : Int))), true)]) rfl rfl (show ∀ j ∈ rids (prog_LinkC 3).2, j ∈ rids (prog_LinkK 2) from by decide +kernel) (fun gv => by kernel_rfl) (oB <| obs_cons (beq_iff_eq.2 (show _ = ((1 : Nat) : Int) from by omega)) <| oY obs_nil) rfl (by decide) (by rfl) (fun _ => ⟨rr, ⟨rr, ⟨rr, ⟨rr, ⟨rr, ⟨rr, ⟨rr, ⟨rr, ⟨⟨Eq.trans (show (vi ((0 : Nat) : Int) : Value) = v0 from (congrArg (Value.int .i64) (by first | rfl | omega))) (by rfl), by rfl⟩, trivial⟩⟩⟩⟩⟩⟩⟩⟩⟩) ⟨⟨rfl, ⟨[], by rfl⟩, by rfl⟩, ⟨rfl, ⟨rfl, ⟨(same_row (E := E_iiii) (α := R_iiii) _ v4 _), trivial⟩⟩⟩⟩
 ·
  exact Mach.ok_fin (M := prog_LinkM o0 L1 n2 n3 o4 L5 n6 n7 O1 O2 N) (cd := 1000000) (cm := 0) (r := (.r1 (v4) : prog_LinkR)) (fu := 4000) (orc := (orcw [(0, false)] [] [] [] [])) (live := [0, 1, 2, 3]) (u := Value.tuple #[vs 3 0 v4.length v4.length, v0]) (bl := [some (.cells [vs 1 o0 n2 n3, vs 2 o4 n6 n7] 22), some (.ro O1), some (.ro O2), some (.cells (rowV E_iiii v4) 35)]) (ob := [((decide ((v6 : Int) < (2 : Int))), false)]) (fun gv => by kernel_rfl) (oN obs_nil) rfl (by decide) (by rfl) rr ⟨⟨rfl, ⟨[], by rfl⟩, by rfl⟩, ⟨rfl, ⟨rfl, ⟨(same_row (E := E_iiii) (α := R_iiii) _ v4 _), trivial⟩⟩⟩⟩

theorem prog_Link_ok3_0 (o0 : Nat) (L1 : List R_iiii) (n2 n3 o4 : Nat) (L5 : List R_iiii) (n6 n7 : Nat) (O1 : Obj) (F1 : RO_iiii O1 o0 L1) (O2 : Obj) (F2 : RO_iiii O2 o4 L5) (v8 N : Nat) : (prog_LinkM o0 L1 n2 n3 o4 L5 n6 n7 O1 O2 N).Ok Try.prog ext_Pp (.h3m0 v8 : prog_LinkX) (prog_LinkStep L1 n2 n3 L5 n6 n7 N (.h3m0 v8 : prog_LinkX)) := by
 show (prog_LinkM o0 L1 n2 n3 o4 L5 n6 n7 O1 O2 N).Ok Try.prog ext_Pp (.h3m0 v8 : prog_LinkX) (prog_Link_h3m0 L1 n2 n3 L5 n6 n7 N v8)
 unfold prog_Link_h3m0
 refine Mach.ok_ite (fun g0 => ?_) (fun g0 => ?_)
 ·
  refine Mach.ok_ite (fun g1 => ?_) (fun g1 => ?_)
  ·
   refine Mach.ok_bind (fun z2 c2 => ?_)
   cases z2 with
   | r0 y2_0 y2_1 =>
    refine Mach.ok_ite (fun g3 => ?_) (fun g3 => ?_)
    ·
     subst g3
     refine Mach.ok_bind (fun z4 c4 => ?_)
     cases z4 with
     | r0 y4_0 =>
      refine Mach.ok_ite (fun g5 => ?_) (fun g5 => ?_)
      ·
       exact Mach.ok_fin (M := prog_LinkM o0 L1 n2 n3 o4 L5 n6 n7 O1 O2 N) (cd := 1000000) (cm := 0) (r := (.r0 ((110 : Int)) : prog_LinkR)) (fu := 4000) (orc := (orcw [(0, true), (1, true)] [] [(0, 0)] [(0, [.i (L1.getD 0 R_iiii.z).a0, .i (L1.getD 0 R_iiii.z).a1, .i (L1.getD 0 R_iiii.z).a2, .i (L1.getD 0 R_iiii.z).a3])] [(1, (instr_TargetT0 ((L1.getD 0 R_iiii.z).a0) ((L1.getD 0 R_iiii.z).a1) ((L1.getD 0 R_iiii.z).a2) ((L1.getD 0 R_iiii.z).a3)  y2_0 true  4)), (2, (instr_CheckT0 ((L1.getD 0 R_iiii.z).a0) ((L1.getD 0 R_iiii.z).a1) ((L1.getD 0 R_iiii.z).a2) ((L1.getD 0 R_iiii.z).a3)  y4_0  4))])) (live := [0, 1, 2]) (u := Value.tuple #[vn, vi (110 : Int)]) (bl := [some (.cells [vs 1 o0 n2 n3, vs 2 o4 n6 n7] 22), some (.ro O1), some (.ro O2)]) (ob := [((y4_0 != (0 : Int)), true), (dP (instr_CheckP0 #[Value.agg #[vi (L1.getD 0 R_iiii.z).a0, vi (L1.getD 0 R_iiii.z).a1, vi (L1.getD 0 R_iiii.z).a2, vi (L1.getD 0 R_iiii.z).a3]] ((L1.getD 0 R_iiii.z).a0) ((L1.getD 0 R_iiii.z).a1) ((L1.getD 0 R_iiii.z).a2) ((L1.getD 0 R_iiii.z).a3)  y4_0  4), true), (dP (instr_TargetP0 #[Value.agg #[vi (L1.getD 0 R_iiii.z).a0, vi (L1.getD 0 R_iiii.z).a1, vi (L1.getD 0 R_iiii.z).a2, vi (L1.getD 0 R_iiii.z).a3]] ((L1.getD 0 R_iiii.z).a0) ((L1.getD 0 R_iiii.z).a1) ((L1.getD 0 R_iiii.z).a2) ((L1.getD 0 R_iiii.z).a3)  y2_0 true  4), true), (sameR (roRow O1 (o0 + (0 * 4)) 4) [.i (L1.getD 0 R_iiii.z).a0, .i (L1.getD 0 R_iiii.z).a1, .i (L1.getD 0 R_iiii.z).a2, .i (L1.getD 0 R_iiii.z).a3], true), (Nat.blt 0 n2, true), ((0 : Int) == Int.ofNat 0, true), ((decide ((0 : Int) < (n2 : Int))), true)]) (fun gv => by kernel_rfl) (oD <| obs_cons (dP_of (instr_CheckC0 #[Value.agg #[vi (L1.getD 0 R_iiii.z).a0, vi (L1.getD 0 R_iiii.z).a1, vi (L1.getD 0 R_iiii.z).a2, vi (L1.getD 0 R_iiii.z).a3]] ((L1.getD 0 R_iiii.z).a0) ((L1.getD 0 R_iiii.z).a1) ((L1.getD 0 R_iiii.z).a2) ((L1.getD 0 R_iiii.z).a3)  y4_0 N c4  4 rfl (by decide) (by decide))) <| obs_cons (dP_of (instr_TargetC0 #[Value.agg #[vi (L1.getD 0 R_iiii.z).a0, vi (L1.getD 0 R_iiii.z).a1, vi (L1.getD 0 R_iiii.z).a2, vi (L1.getD 0 R_iiii.z).a3]] ((L1.getD 0 R_iiii.z).a0) ((L1.getD 0 R_iiii.z).a1) ((L1.getD 0 R_iiii.z).a2) ((L1.getD 0 R_iiii.z).a3)  y2_0 true N c2  4 rfl (by decide) (by decide))) <| obs_cons ((show (o0 + 0 * 4 + 0) = (o0 + (0 * 4)) from by omega) ▸ F1 0 (by omega) 0 4 (show 0 + 4 ≤ 4 from by decide)) <| oB <| oI <| oY obs_nil) rfl (by decide) (by rfl) rr ⟨⟨rfl, ⟨[], by rfl⟩, by rfl⟩, ⟨rfl, ⟨rfl, trivial⟩⟩⟩
      ·
       refine Mach.ok_ite (fun g6 => ?_) (fun g6 => ?_)
       ·
        exact Mach.ok_fin (M := prog_LinkM o0 L1 n2 n3 o4 L5 n6 n7 O1 O2 N) (cd := 1000000) (cm := 0) (r := (.r0 ((110 : Int)) : prog_LinkR)) (fu := 4000) (orc := (orcw [(0, true), (1, false), (2, true)] [] [(0, 0)] [(0, [.i (L1.getD 0 R_iiii.z).a0, .i (L1.getD 0 R_iiii.z).a1, .i (L1.getD 0 R_iiii.z).a2, .i (L1.getD 0 R_iiii.z).a3])] [(1, (instr_TargetT0 ((L1.getD 0 R_iiii.z).a0) ((L1.getD 0 R_iiii.z).a1) ((L1.getD 0 R_iiii.z).a2) ((L1.getD 0 R_iiii.z).a3)  y2_0 true  4)), (2, (instr_CheckT0 ((L1.getD 0 R_iiii.z).a0) ((L1.getD 0 R_iiii.z).a1) ((L1.getD 0 R_iiii.z).a2) ((L1.getD 0 R_iiii.z).a3)  y4_0  4))])) (live := [0, 1, 2]) (u := Value.tuple #[vn, vi (110 : Int)]) (bl := [some (.cells [vs 1 o0 n2 n3, vs 2 o4 n6 n7] 22), some (.ro O1), some (.ro O2)]) (ob := [((decide (y2_0 > (n2 : Int))), true), ((y4_0 != (0 : Int)), false), (dP (instr_CheckP0 #[Value.agg #[vi (L1.getD 0 R_iiii.z).a0, vi (L1.getD 0 R_iiii.z).a1, vi (L1.getD 0 R_iiii.z).a2, vi (L1.getD 0 R_iiii.z).a3]] ((L1.getD 0 R_iiii.z).a0) ((L1.getD 0 R_iiii.z).a1) ((L1.getD 0 R_iiii.z).a2) ((L1.getD 0 R_iiii.z).a3)  y4_0  4), true), (dP (instr_TargetP0 #[Value.agg #[vi (L1.getD 0 R_iiii.z).a0, vi (L1.getD 0 R_iiii.z).a1, vi (L1.getD 0 R_iiii.z).a2, vi (L1.getD 0 R_iiii.z).a3]] ((L1.getD 0 R_iiii.z).a0) ((L1.getD 0 R_iiii.z).a1) ((L1.getD 0 R_iiii.z).a2) ((L1.getD 0 R_iiii.z).a3)  y2_0 true  4), true), (sameR (roRow O1 (o0 + (0 * 4)) 4) [.i (L1.getD 0 R_iiii.z).a0, .i (L1.getD 0 R_iiii.z).a1, .i (L1.getD 0 R_iiii.z).a2, .i (L1.getD 0 R_iiii.z).a3], true), (Nat.blt 0 n2, true), ((0 : Int) == Int.ofNat 0, true), ((decide ((0 : Int) < (n2 : Int))), true)]) (fun gv => by kernel_rfl) (oY <| oE <| obs_cons (dP_of (instr_CheckC0 #[Value.agg #[vi (L1.getD 0 R_iiii.z).a0, vi (L1.getD 0 R_iiii.z).a1, vi (L1.getD 0 R_iiii.z).a2, vi (L1.getD 0 R_iiii.z).a3]] ((L1.getD 0 R_iiii.z).a0) ((L1.getD 0 R_iiii.z).a1) ((L1.getD 0 R_iiii.z).a2) ((L1.getD 0 R_iiii.z).a3)  y4_0 N c4  4 rfl (by decide) (by decide))) <| obs_cons (dP_of (instr_TargetC0 #[Value.agg #[vi (L1.getD 0 R_iiii.z).a0, vi (L1.getD 0 R_iiii.z).a1, vi (L1.getD 0 R_iiii.z).a2, vi (L1.getD 0 R_iiii.z).a3]] ((L1.getD 0 R_iiii.z).a0) ((L1.getD 0 R_iiii.z).a1) ((L1.getD 0 R_iiii.z).a2) ((L1.getD 0 R_iiii.z).a3)  y2_0 true N c2  4 rfl (by decide) (by decide))) <| obs_cons ((show (o0 + 0 * 4 + 0) = (o0 + (0 * 4)) from by omega) ▸ F1 0 (by omega) 0 4 (show 0 + 4 ≤ 4 from by decide)) <| oB <| oI <| oY obs_nil) rfl (by decide) (by rfl) rr ⟨⟨rfl, ⟨[], by rfl⟩, by rfl⟩, ⟨rfl, ⟨rfl, trivial⟩⟩⟩
       ·
        refine Mach.ok_bind (fun z7 c7 => ?_)
        cases z7 with
        | r0 y7_0 y7_1 =>
         exact Mach.ok_next (M := prog_LinkM o0 L1 n2 n3 o4 L5 n6 n7 O1 O2 N) (cd := 1000000) (cm := 0) (y := (.h3m1 (([(⟨(L1.getD 0 R_iiii.z).a0, y7_0, y7_1, (L1.getD 0 R_iiii.z).a3⟩ : R_iiii)] : List R_iiii)) (0) (v8) (1) : prog_LinkX)) (fu := 4000) (orc := (orcw [(0, true), (1, false), (2, false)] [] [(0, 0)] [(0, [.i (L1.getD 0 R_iiii.z).a0, .i (L1.getD 0 R_iiii.z).a1, .i (L1.getD 0 R_iiii.z).a2, .i (L1.getD 0 R_iiii.z).a3])] [(1, (instr_TargetT0 ((L1.getD 0 R_iiii.z).a0) ((L1.getD 0 R_iiii.z).a1) ((L1.getD 0 R_iiii.z).a2) ((L1.getD 0 R_iiii.z).a3)  y2_0 true  4)), (2, (instr_CheckT0 ((L1.getD 0 R_iiii.z).a0) ((L1.getD 0 R_iiii.z).a1) ((L1.getD 0 R_iiii.z).a2) ((L1.getD 0 R_iiii.z).a3)  y4_0  4)), (3, (instr_AimT0 ((L1.getD 0 R_iiii.z).a0) ((L1.getD 0 R_iiii.z).a1) ((L1.getD 0 R_iiii.z).a2) ((L1.getD 0 R_iiii.z).a3) ((IntKind.i64.wrap ((0 : Int) + y2_0)))  y7_0 y7_1  4))])) (live := [0, 1, 2, 5]) (tv := fun _ => [some (vs 5 0 1 1), some (vs 1 o0 n2 n3), some (v0), some (vs 0 0 2 2), some (vi (2 : Int)), some (vi (v8 : Int)), some (vs 1 o0 n2 n3), some (vi (n2 : Int)), some (vi (1 : Int))]) (bl := [some (.cells [vs 1 o0 n2 n3, vs 2 o4 n6 n7] 22), some (.ro O1), some (.ro O2), some (.cells [vi (L1.getD 0 R_iiii.z).a0, vi y7_0, vi y7_1, vi (L1.getD 0 R_iiii.z).a3] 35)]) (ob := [(dP (instr_AimP0 #[Value.agg #[vi (L1.getD 0 R_iiii.z).a0, vi (L1.getD 0 R_iiii.z).a1, vi (L1.getD 0 R_iiii.z).a2, vi (L1.getD 0 R_iiii.z).a3], vi (IntKind.i64.wrap ((0 : Int) + y2_0))] ((L1.getD 0 R_iiii.z).a0) ((L1.getD 0 R_iiii.z).a1) ((L1.getD 0 R_iiii.z).a2) ((L1.getD 0 R_iiii.z).a3) ((IntKind.i64.wrap ((0 : Int) + y2_0)))  y7_0 y7_1  4), true), ((decide (y2_0 > (n2 : Int))), false), ((y4_0 != (0 : Int)), false), (dP (instr_CheckP0 #[Value.agg #[vi (L1.getD 0 R_iiii.z).a0, vi (L1.getD 0 R_iiii.z).a1, vi (L1.getD 0 R_iiii.z).a2, vi (L1.getD 0 R_iiii.z).a3]] ((L1.getD 0 R_iiii.z).a0) ((L1.getD 0 R_iiii.z).a1) ((L1.getD 0 R_iiii.z).a2) ((L1.getD 0 R_iiii.z).a3)  y4_0  4), true), (dP (instr_TargetP0 #[Value.agg #[vi (L1.getD 0 R_iiii.z).a0, vi (L1.getD 0 R_iiii.z).a1, vi (L1.getD 0 R_iiii.z).a2, vi (L1.getD 0 R_iiii.z).a3]] ((L1.getD 0 R_iiii.z).a0) ((L1.getD 0 R_iiii.z).a1) ((L1.getD 0 R_iiii.z).a2) ((L1.getD 0 R_iiii.z).a3)  y2_0 true  4), true), (sameR (roRow O1 (o0 + (0 * 4)) 4) [.i (L1.getD 0 R_iiii.z).a0, .i (L1.getD 0 R_iiii.z).a1, .i (L1.getD 0 R_iiii.z).a2, .i (L1.getD 0 R_iiii.z).a3], true), (Nat.blt 0 n2, true), ((0 : Int) == Int.ofNat 0, true), ((decide ((0 : Int) < (n2 : Int))), true)]) rfl (show 3 ∈ rids (prog_LinkK 3) from by decide +kernel) (fun gv => by kernel_rfl) (obs_cons (dP_of (instr_AimC0 #[Value.agg #[vi (L1.getD 0 R_iiii.z).a0, vi (L1.getD 0 R_iiii.z).a1, vi (L1.getD 0 R_iiii.z).a2, vi (L1.getD 0 R_iiii.z).a3], vi (IntKind.i64.wrap ((0 : Int) + y2_0))] ((L1.getD 0 R_iiii.z).a0) ((L1.getD 0 R_iiii.z).a1) ((L1.getD 0 R_iiii.z).a2) ((L1.getD 0 R_iiii.z).a3) ((IntKind.i64.wrap ((0 : Int) + y2_0)))  y7_0 y7_1 N c7  4 rfl (by decide) (by decide))) <| oN <| oE <| obs_cons (dP_of (instr_CheckC0 #[Value.agg #[vi (L1.getD 0 R_iiii.z).a0, vi (L1.getD 0 R_iiii.z).a1, vi (L1.getD 0 R_iiii.z).a2, vi (L1.getD 0 R_iiii.z).a3]] ((L1.getD 0 R_iiii.z).a0) ((L1.getD 0 R_iiii.z).a1) ((L1.getD 0 R_iiii.z).a2) ((L1.getD 0 R_iiii.z).a3)  y4_0 N c4  4 rfl (by decide) (by decide))) <| obs_cons (dP_of (instr_TargetC0 #[Value.agg #[vi (L1.getD 0 R_iiii.z).a0, vi (L1.getD 0 R_iiii.z).a1, vi (L1.getD 0 R_iiii.z).a2, vi (L1.getD 0 R_iiii.z).a3]] ((L1.getD 0 R_iiii.z).a0) ((L1.getD 0 R_iiii.z).a1) ((L1.getD 0 R_iiii.z).a2) ((L1.getD 0 R_iiii.z).a3)  y2_0 true N c2  4 rfl (by decide) (by decide))) <| obs_cons ((show (o0 + 0 * 4 + 0) = (o0 + (0 * 4)) from by omega) ▸ F1 0 (by omega) 0 4 (show 0 + 4 ≤ 4 from by decide)) <| oB <| oI <| oY obs_nil) rfl (by decide) (by rfl) (fun _ => ⟨⟨Eq.trans (show (vs 3 0 ([(⟨(L1.getD 0 R_iiii.z).a0, y7_0, y7_1, (L1.getD 0 R_iiii.z).a3⟩ : R_iiii)] : List R_iiii).length ([(⟨(L1.getD 0 R_iiii.z).a0, y7_0, y7_1, (L1.getD 0 R_iiii.z).a3⟩ : R_iiii)] : List R_iiii).length : Value) = vs 3 0 1 1 from (slice_eq rfl eqA eqA)) (by rfl), by rfl⟩, ⟨rr, ⟨⟨Eq.trans (show (vi ((0 : Nat) : Int) : Value) = v0 from (congrArg (Value.int .i64) (by first | rfl | omega))) (by rfl), by rfl⟩, ⟨rr, ⟨rr, ⟨rr, ⟨rr, ⟨rr, ⟨⟨Eq.trans (show (vi ((1 : Nat) : Int) : Value) = vi (1 : Int) from (congrArg (Value.int .i64) (by first | rfl | omega))) (by rfl), by rfl⟩, trivial⟩⟩⟩⟩⟩⟩⟩⟩⟩) ⟨⟨rfl, ⟨[], by rfl⟩, by rfl⟩, ⟨rfl, ⟨rfl, ⟨(same_cells (E := E_iiii) _ (L := ([(⟨(L1.getD 0 R_iiii.z).a0, y7_0, y7_1, (L1.getD 0 R_iiii.z).a3⟩ : R_iiii)] : List R_iiii)) _ (show ([vi (L1.getD 0 R_iiii.z).a0, vi y7_0, vi y7_1, vi (L1.getD 0 R_iiii.z).a3] : List Value) = rowV E_iiii ([(⟨(L1.getD 0 R_iiii.z).a0, y7_0, y7_1, (L1.getD 0 R_iiii.z).a3⟩ : R_iiii)] : List R_iiii) from rfl)), trivial⟩⟩⟩⟩
    ·
     obtain rfl : y2_1 = false := by simpa using g3
     refine Mach.ok_bind (fun z4 c4 => ?_)
     cases z4 with
     | r0 y4_0 =>
      refine Mach.ok_ite (fun g5 => ?_) (fun g5 => ?_)
      ·
       exact Mach.ok_fin (M := prog_LinkM o0 L1 n2 n3 o4 L5 n6 n7 O1 O2 N) (cd := 1000000) (cm := 0) (r := (.r0 ((110 : Int)) : prog_LinkR)) (fu := 4000) (orc := (orcw [(0, true), (1, true)] [] [(0, 0)] [(0, [.i (L1.getD 0 R_iiii.z).a0, .i (L1.getD 0 R_iiii.z).a1, .i (L1.getD 0 R_iiii.z).a2, .i (L1.getD 0 R_iiii.z).a3])] [(1, (instr_TargetT0 ((L1.getD 0 R_iiii.z).a0) ((L1.getD 0 R_iiii.z).a1) ((L1.getD 0 R_iiii.z).a2) ((L1.getD 0 R_iiii.z).a3)  y2_0 false  4)), (2, (instr_CheckT0 ((L1.getD 0 R_iiii.z).a0) ((L1.getD 0 R_iiii.z).a1) ((L1.getD 0 R_iiii.z).a2) ((L1.getD 0 R_iiii.z).a3)  y4_0  4))])) (live := [0, 1, 2]) (u := Value.tuple #[vn, vi (110 : Int)]) (bl := [some (.cells [vs 1 o0 n2 n3, vs 2 o4 n6 n7] 22), some (.ro O1), some (.ro O2)]) (ob := [((y4_0 != (0 : Int)), true), (dP (instr_CheckP0 #[Value.agg #[vi (L1.getD 0 R_iiii.z).a0, vi (L1.getD 0 R_iiii.z).a1, vi (L1.getD 0 R_iiii.z).a2, vi (L1.getD 0 R_iiii.z).a3]] ((L1.getD 0 R_iiii.z).a0) ((L1.getD 0 R_iiii.z).a1) ((L1.getD 0 R_iiii.z).a2) ((L1.getD 0 R_iiii.z).a3)  y4_0  4), true), (dP (instr_TargetP0 #[Value.agg #[vi (L1.getD 0 R_iiii.z).a0, vi (L1.getD 0 R_iiii.z).a1, vi (L1.getD 0 R_iiii.z).a2, vi (L1.getD 0 R_iiii.z).a3]] ((L1.getD 0 R_iiii.z).a0) ((L1.getD 0 R_iiii.z).a1) ((L1.getD 0 R_iiii.z).a2) ((L1.getD 0 R_iiii.z).a3)  y2_0 false  4), true), (sameR (roRow O1 (o0 + (0 * 4)) 4) [.i (L1.getD 0 R_iiii.z).a0, .i (L1.getD 0 R_iiii.z).a1, .i (L1.getD 0 R_iiii.z).a2, .i (L1.getD 0 R_iiii.z).a3], true), (Nat.blt 0 n2, true), ((0 : Int) == Int.ofNat 0, true), ((decide ((0 : Int) < (n2 : Int))), true)]) (fun gv => by kernel_rfl) (oD <| obs_cons (dP_of (instr_CheckC0 #[Value.agg #[vi (L1.getD 0 R_iiii.z).a0, vi (L1.getD 0 R_iiii.z).a1, vi (L1.getD 0 R_iiii.z).a2, vi (L1.getD 0 R_iiii.z).a3]] ((L1.getD 0 R_iiii.z).a0) ((L1.getD 0 R_iiii.z).a1) ((L1.getD 0 R_iiii.z).a2) ((L1.getD 0 R_iiii.z).a3)  y4_0 N c4  4 rfl (by decide) (by decide))) <| obs_cons (dP_of (instr_TargetC0 #[Value.agg #[vi (L1.getD 0 R_iiii.z).a0, vi (L1.getD 0 R_iiii.z).a1, vi (L1.getD 0 R_iiii.z).a2, vi (L1.getD 0 R_iiii.z).a3]] ((L1.getD 0 R_iiii.z).a0) ((L1.getD 0 R_iiii.z).a1) ((L1.getD 0 R_iiii.z).a2) ((L1.getD 0 R_iiii.z).a3)  y2_0 false N c2  4 rfl (by decide) (by decide))) <| obs_cons ((show (o0 + 0 * 4 + 0) = (o0 + (0 * 4)) from by omega) ▸ F1 0 (by omega) 0 4 (show 0 + 4 ≤ 4 from by decide)) <| oB <| oI <| oY obs_nil) rfl (by decide) (by rfl) rr ⟨⟨rfl, ⟨[], by rfl⟩, by rfl⟩, ⟨rfl, ⟨rfl, trivial⟩⟩⟩
      ·
       refine Mach.ok_bind (fun z6 c6 => ?_)
       cases z6 with
       | r0 y6_0 y6_1 =>
        exact Mach.ok_next (M := prog_LinkM o0 L1 n2 n3 o4 L5 n6 n7 O1 O2 N) (cd := 1000000) (cm := 0) (y := (.h3m1 (([(⟨(L1.getD 0 R_iiii.z).a0, y6_0, y6_1, (L1.getD 0 R_iiii.z).a3⟩ : R_iiii)] : List R_iiii)) (0) (v8) (1) : prog_LinkX)) (fu := 4000) (orc := (orcw [(0, true), (1, false)] [] [(0, 0)] [(0, [.i (L1.getD 0 R_iiii.z).a0, .i (L1.getD 0 R_iiii.z).a1, .i (L1.getD 0 R_iiii.z).a2, .i (L1.getD 0 R_iiii.z).a3])] [(1, (instr_TargetT0 ((L1.getD 0 R_iiii.z).a0) ((L1.getD 0 R_iiii.z).a1) ((L1.getD 0 R_iiii.z).a2) ((L1.getD 0 R_iiii.z).a3)  y2_0 false  4)), (2, (instr_CheckT0 ((L1.getD 0 R_iiii.z).a0) ((L1.getD 0 R_iiii.z).a1) ((L1.getD 0 R_iiii.z).a2) ((L1.getD 0 R_iiii.z).a3)  y4_0  4)), (3, (instr_AimT0 ((L1.getD 0 R_iiii.z).a0) ((L1.getD 0 R_iiii.z).a1) ((L1.getD 0 R_iiii.z).a2) ((L1.getD 0 R_iiii.z).a3) ((IntKind.i64.wrap ((0 : Int) + y2_0)))  y6_0 y6_1  4))])) (live := [0, 1, 2, 5]) (tv := fun _ => [some (vs 5 0 1 1), some (vs 1 o0 n2 n3), some (v0), some (vs 0 0 2 2), some (vi (2 : Int)), some (vi (v8 : Int)), some (vs 1 o0 n2 n3), some (vi (n2 : Int)), some (vi (1 : Int))]) (bl := [some (.cells [vs 1 o0 n2 n3, vs 2 o4 n6 n7] 22), some (.ro O1), some (.ro O2), some (.cells [vi (L1.getD 0 R_iiii.z).a0, vi y6_0, vi y6_1, vi (L1.getD 0 R_iiii.z).a3] 35)]) (ob := [(dP (instr_AimP0 #[Value.agg #[vi (L1.getD 0 R_iiii.z).a0, vi (L1.getD 0 R_iiii.z).a1, vi (L1.getD 0 R_iiii.z).a2, vi (L1.getD 0 R_iiii.z).a3], vi (IntKind.i64.wrap ((0 : Int) + y2_0))] ((L1.getD 0 R_iiii.z).a0) ((L1.getD 0 R_iiii.z).a1) ((L1.getD 0 R_iiii.z).a2) ((L1.getD 0 R_iiii.z).a3) ((IntKind.i64.wrap ((0 : Int) + y2_0)))  y6_0 y6_1  4), true), ((y4_0 != (0 : Int)), false), (dP (instr_CheckP0 #[Value.agg #[vi (L1.getD 0 R_iiii.z).a0, vi (L1.getD 0 R_iiii.z).a1, vi (L1.getD 0 R_iiii.z).a2, vi (L1.getD 0 R_iiii.z).a3]] ((L1.getD 0 R_iiii.z).a0) ((L1.getD 0 R_iiii.z).a1) ((L1.getD 0 R_iiii.z).a2) ((L1.getD 0 R_iiii.z).a3)  y4_0  4), true), (dP (instr_TargetP0 #[Value.agg #[vi (L1.getD 0 R_iiii.z).a0, vi (L1.getD 0 R_iiii.z).a1, vi (L1.getD 0 R_iiii.z).a2, vi (L1.getD 0 R_iiii.z).a3]] ((L1.getD 0 R_iiii.z).a0) ((L1.getD 0 R_iiii.z).a1) ((L1.getD 0 R_iiii.z).a2) ((L1.getD 0 R_iiii.z).a3)  y2_0 false  4), true), (sameR (roRow O1 (o0 + (0 * 4)) 4) [.i (L1.getD 0 R_iiii.z).a0, .i (L1.getD 0 R_iiii.z).a1, .i (L1.getD 0 R_iiii.z).a2, .i (L1.getD 0 R_iiii.z).a3], true), (Nat.blt 0 n2, true), ((0 : Int) == Int.ofNat 0, true), ((decide ((0 : Int) < (n2 : Int))), true)]) rfl (show 3 ∈ rids (prog_LinkK 3) from by decide +kernel) (fun gv => by kernel_rfl) (obs_cons (dP_of (instr_AimC0 #[Value.agg #[vi (L1.getD 0 R_iiii.z).a0, vi (L1.getD 0 R_iiii.z).a1, vi (L1.getD 0 R_iiii.z).a2, vi (L1.getD 0 R_iiii.z).a3], vi (IntKind.i64.wrap ((0 : Int) + y2_0))] ((L1.getD 0 R_iiii.z).a0) ((L1.getD 0 R_iiii.z).a1) ((L1.getD 0 R_iiii.z).a2) ((L1.getD 0 R_iiii.z).a3) ((IntKind.i64.wrap ((0 : Int) + y2_0)))  y6_0 y6_1 N c6  4 rfl (by decide) (by decide))) <| oE <| obs_cons (dP_of (instr_CheckC0 #[Value.agg #[vi (L1.getD 0 R_iiii.z).a0, vi (L1.getD 0 R_iiii.z).a1, vi (L1.getD 0 R_iiii.z).a2, vi (L1.getD 0 R_iiii.z).a3]] ((L1.getD 0 R_iiii.z).a0) ((L1.getD 0 R_iiii.z).a1) ((L1.getD 0 R_iiii.z).a2) ((L1.getD 0 R_iiii.z).a3)  y4_0 N c4  4 rfl (by decide) (by decide))) <| obs_cons (dP_of (instr_TargetC0 #[Value.agg #[vi (L1.getD 0 R_iiii.z).a0, vi (L1.getD 0 R_iiii.z).a1, vi (L1.getD 0 R_iiii.z).a2, vi (L1.getD 0 R_iiii.z).a3]] ((L1.getD 0 R_iiii.z).a0) ((L1.getD 0 R_iiii.z).a1) ((L1.getD 0 R_iiii.z).a2) ((L1.getD 0 R_iiii.z).a3)  y2_0 false N c2  4 rfl (by decide) (by decide))) <| obs_cons ((show (o0 + 0 * 4 + 0) = (o0 + (0 * 4)) from by omega) ▸ F1 0 (by omega) 0 4 (show 0 + 4 ≤ 4 from by decide)) <| oB <| oI <| oY obs_nil) rfl (by decide) (by rfl) (fun _ => ⟨⟨Eq.trans (show (vs 3 0 ([(⟨(L1.getD 0 R_iiii.z).a0, y6_0, y6_1, (L1.getD 0 R_iiii.z).a3⟩ : R_iiii)] : List R_iiii).length ([(⟨(L1.getD 0 R_iiii.z).a0, y6_0, y6_1, (L1.getD 0 R_iiii.z).a3⟩ : R_iiii)] : List R_iiii).length : Value) = vs 3 0 1 1 from (slice_eq rfl eqA eqA)) (by rfl), by rfl⟩, ⟨rr, ⟨⟨Eq.trans (show (vi ((0 : Nat) : Int) : Value) = v0 from (congrArg (Value.int .i64) (by first | rfl | omega))) (by rfl), by rfl⟩, ⟨rr, ⟨rr, ⟨rr, ⟨rr, ⟨rr, ⟨⟨Eq.trans (show (vi ((1 : Nat) : Int) : Value) = vi (1 : Int) from (congrArg (Value.int .i64) (by first | rfl | omega))) (by rfl), by rfl⟩, trivial⟩⟩⟩⟩⟩⟩⟩⟩⟩) ⟨⟨rfl, ⟨[], by rfl⟩, by rfl⟩, ⟨rfl, ⟨rfl, ⟨(same_cells (E := E_iiii) _ (L := ([(⟨(L1.getD 0 R_iiii.z).a0, y6_0, y6_1, (L1.getD 0 R_iiii.z).a3⟩ : R_iiii)] : List R_iiii)) _ (show ([vi (L1.getD 0 R_iiii.z).a0, vi y6_0, vi y6_1, vi (L1.getD 0 R_iiii.z).a3] : List Value) = rowV E_iiii ([(⟨(L1.getD 0 R_iiii.z).a0, y6_0, y6_1, (L1.getD 0 R_iiii.z).a3⟩ : R_iiii)] : List R_iiii) from rfl)), trivial⟩⟩⟩⟩
  ·
   exact Mach.ok_none
 ·
  refine Mach.ok_ite (fun g1 => ?_) (fun g1 => ?_)
  ·
   exact Mach.ok_next (M := prog_LinkM o0 L1 n2 n3 o4 L5 n6 n7 O1 O2 N) (cd := 1000000) (cm := 0) (y := (.h2m0 ((v8 + 1)) : prog_LinkX)) (fu := 4000) (orc := (orcw [(0, false)] [(0, (((v8 + 1) : Nat) : Int))] [] [] [])) (live := [0, 1, 2]) (tv := fun _ => [some (vn), some (vs 0 0 2 2), some (vi (2 : Int)), some (vi (((v8 + 1) : Nat) : Int))]) (bl := [some (.cells [vs 1 o0 n2 n3, vs 2 o4 n6 n7] 22), some (.ro O1), some (.ro O2)]) (ob := [((IntKind.i64.wrap ((v8 : Int) + (1 : Int))) == (((v8 + 1) : Nat) : Int), true), ((decide ((0 : Int) < (n2 : Int))), false)]) rfl (show 2 ∈ rids (prog_LinkK 3) from by decide +kernel) (fun gv => by kernel_rfl) (obs_cons (beq_iff_eq.2 ((wrap_i64 ltA).trans (by first | rfl | omega))) <| oN obs_nil) rfl (by decide) (by rfl) (fun _ => ⟨rr, ⟨rr, ⟨rr, ⟨rr, trivial⟩⟩⟩⟩) ⟨⟨rfl, ⟨[], by rfl⟩, by rfl⟩, ⟨rfl, ⟨rfl, trivial⟩⟩⟩
  ·
   exact Mach.ok_none

theorem prog_Link_ok3_1 (o0 : Nat) (L1 : List R_iiii) (n2 n3 o4 : Nat) (L5 : List R_iiii) (n6 n7 : Nat) (O1 : Obj) (F1 : RO_iiii O1 o0 L1) (O2 : Obj) (F2 : RO_iiii O2 o4 L5) (v4 : List R_iiii) (v7 v9 v13 N : Nat) : (prog_LinkM o0 L1 n2 n3 o4 L5 n6 n7 O1 O2 N).Ok Try.prog ext_Pp (.h3m1 v4 v7 v9 v13 : prog_LinkX) (prog_LinkStep L1 n2 n3 L5 n6 n7 N (.h3m1 v4 v7 v9 v13 : prog_LinkX)) := by
 show (prog_LinkM o0 L1 n2 n3 o4 L5 n6 n7 O1 O2 N).Ok Try.prog ext_Pp (.h3m1 v4 v7 v9 v13 : prog_LinkX) (prog_Link_h3m1 L1 n2 n3 L5 n6 n7 N v4 v7 v9 v13)
 unfold prog_Link_h3m1
 refine Mach.ok_ite (fun g0 => ?_) (fun g0 => ?_)
 ·
  refine Mach.ok_ite (fun g1 => ?_) (fun g1 => ?_)
  ·
   refine Mach.ok_bind (fun z2 c2 => ?_)
   cases z2 with
   | r0 y2_0 y2_1 =>
    refine Mach.ok_ite (fun g3 => ?_) (fun g3 => ?_)
    ·
     subst g3
     refine Mach.ok_bind (fun z4 c4 => ?_)
     cases z4 with
     | r0 y4_0 =>
      refine Mach.ok_ite (fun g5 => ?_) (fun g5 => ?_)
      ·
       exact Mach.ok_fin (M := prog_LinkM o0 L1 n2 n3 o4 L5 n6 n7 O1 O2 N) (cd := 1000000) (cm := 0) (r := (.r0 ((110 : Int)) : prog_LinkR)) (fu := 4000) (orc := (orcw [(0, true), (1, true)] [] [(0, v13)] [(0, [.i (L1.getD v13 R_iiii.z).a0, .i (L1.getD v13 R_iiii.z).a1, .i (L1.getD v13 R_iiii.z).a2, .i (L1.getD v13 R_iiii.z).a3])] [(1, (instr_TargetT0 ((L1.getD v13 R_iiii.z).a0) ((L1.getD v13 R_iiii.z).a1) ((L1.getD v13 R_iiii.z).a2) ((L1.getD v13 R_iiii.z).a3)  y2_0 true  5)), (2, (instr_CheckT0 ((L1.getD v13 R_iiii.z).a0) ((L1.getD v13 R_iiii.z).a1) ((L1.getD v13 R_iiii.z).a2) ((L1.getD v13 R_iiii.z).a3)  y4_0  5))])) (live := [0, 1, 2]) (u := Value.tuple #[vn, vi (110 : Int)]) (bl := [some (.cells [vs 1 o0 n2 n3, vs 2 o4 n6 n7] 22), some (.ro O1), some (.ro O2)]) (ob := [((y4_0 != (0 : Int)), true), (dP (instr_CheckP0 #[Value.agg #[vi (L1.getD v13 R_iiii.z).a0, vi (L1.getD v13 R_iiii.z).a1, vi (L1.getD v13 R_iiii.z).a2, vi (L1.getD v13 R_iiii.z).a3]] ((L1.getD v13 R_iiii.z).a0) ((L1.getD v13 R_iiii.z).a1) ((L1.getD v13 R_iiii.z).a2) ((L1.getD v13 R_iiii.z).a3)  y4_0  5), true), (dP (instr_TargetP0 #[Value.agg #[vi (L1.getD v13 R_iiii.z).a0, vi (L1.getD v13 R_iiii.z).a1, vi (L1.getD v13 R_iiii.z).a2, vi (L1.getD v13 R_iiii.z).a3]] ((L1.getD v13 R_iiii.z).a0) ((L1.getD v13 R_iiii.z).a1) ((L1.getD v13 R_iiii.z).a2) ((L1.getD v13 R_iiii.z).a3)  y2_0 true  5), true), (sameR (roRow O1 (o0 + (v13 * 4)) 4) [.i (L1.getD v13 R_iiii.z).a0, .i (L1.getD v13 R_iiii.z).a1, .i (L1.getD v13 R_iiii.z).a2, .i (L1.getD v13 R_iiii.z).a3], true), (Nat.blt v13 n2, true), ((v13 : Int) == Int.ofNat v13, true), ((decide ((v13 : Int) < (n2 : Int))), true)]) (fun gv => by kernel_rfl) (oD <| obs_cons (dP_of (instr_CheckC0 #[Value.agg #[vi (L1.getD v13 R_iiii.z).a0, vi (L1.getD v13 R_iiii.z).a1, vi (L1.getD v13 R_iiii.z).a2, vi (L1.getD v13 R_iiii.z).a3]] ((L1.getD v13 R_iiii.z).a0) ((L1.getD v13 R_iiii.z).a1) ((L1.getD v13 R_iiii.z).a2) ((L1.getD v13 R_iiii.z).a3)  y4_0 N c4  5 rfl (by decide) (by decide))) <| obs_cons (dP_of (instr_TargetC0 #[Value.agg #[vi (L1.getD v13 R_iiii.z).a0, vi (L1.getD v13 R_iiii.z).a1, vi (L1.getD v13 R_iiii.z).a2, vi (L1.getD v13 R_iiii.z).a3]] ((L1.getD v13 R_iiii.z).a0) ((L1.getD v13 R_iiii.z).a1) ((L1.getD v13 R_iiii.z).a2) ((L1.getD v13 R_iiii.z).a3)  y2_0 true N c2  5 rfl (by decide) (by decide))) <| obs_cons ((show (o0 + v13 * 4 + 0) = (o0 + (v13 * 4)) from by omega) ▸ F1 v13 (by omega) 0 4 (show 0 + 4 ≤ 4 from by decide)) <| oB <| oI <| oY obs_nil) rfl (by decide) (by rfl) rr ⟨⟨rfl, ⟨[], by rfl⟩, by rfl⟩, ⟨rfl, ⟨rfl, trivial⟩⟩⟩
      ·
       refine Mach.ok_ite (fun g6 => ?_) (fun g6 => ?_)
       ·
        exact Mach.ok_fin (M := prog_LinkM o0 L1 n2 n3 o4 L5 n6 n7 O1 O2 N) (cd := 1000000) (cm := 0) (r := (.r0 ((110 : Int)) : prog_LinkR)) (fu := 4000) (orc := (orcw [(0, true), (1, false), (2, true)] [] [(0, v13)] [(0, [.i (L1.getD v13 R_iiii.z).a0, .i (L1.getD v13 R_iiii.z).a1, .i (L1.getD v13 R_iiii.z).a2, .i (L1.getD v13 R_iiii.z).a3])] [(1, (instr_TargetT0 ((L1.getD v13 R_iiii.z).a0) ((L1.getD v13 R_iiii.z).a1) ((L1.getD v13 R_iiii.z).a2) ((L1.getD v13 R_iiii.z).a3)  y2_0 true  5)), (2, (instr_CheckT0 ((L1.getD v13 R_iiii.z).a0) ((L1.getD v13 R_iiii.z).a1) ((L1.getD v13 R_iiii.z).a2) ((L1.getD v13 R_iiii.z).a3)  y4_0  5))])) (live := [0, 1, 2]) (u := Value.tuple #[vn, vi (110 : Int)]) (bl := [some (.cells [vs 1 o0 n2 n3, vs 2 o4 n6 n7] 22), some (.ro O1), some (.ro O2)]) (ob := [((decide (y2_0 > (n2 : Int))), true), ((y4_0 != (0 : Int)), false), (dP (instr_CheckP0 #[Value.agg #[vi (L1.getD v13 R_iiii.z).a0, vi (L1.getD v13 R_iiii.z).a1, vi (L1.getD v13 R_iiii.z).a2, vi (L1.getD v13 R_iiii.z).a3]] ((L1.getD v13 R_iiii.z).a0) ((L1.getD v13 R_iiii.z).a1) ((L1.getD v13 R_iiii.z).a2) ((L1.getD v13 R_iiii.z).a3)  y4_0  5), true), (dP (instr_TargetP0 #[Value.agg #[vi (L1.getD v13 R_iiii.z).a0, vi (L1.getD v13 R_iiii.z).a1, vi (L1.getD v13 R_iiii.z).a2, vi (L1.getD v13 R_iiii.z).a3]] ((L1.getD v13 R_iiii.z).a0) ((L1.getD v13 R_iiii.z).a1) ((L1.getD v13 R_iiii.z).a2) ((L1.getD v13 R_iiii.z).a3)  y2_0 true  5), true), (sameR (roRow O1 (o0 + (v13 * 4)) 4) [.i (L1.getD v13 R_iiii.z).a0, .i (L1.getD v13 R_iiii.z).a1, .i (L1.getD v13 R_iiii.z).a2, .i (L1.getD v13 R_iiii.z).a3], true), (Nat.blt v13 n2, true), ((v13 : Int) == Int.ofNat v13, true), ((decide ((v13 : Int) < (n2 : Int))), true)]) (fun gv => by kernel_rfl) (oY <| oE <| obs_cons (dP_of (instr_CheckC0 #[Value.agg #[vi (L1.getD v13 R_iiii.z).a0, vi (L1.getD v13 R_iiii.z).a1, vi (L1.getD v13 R_iiii.z).a2, vi (L1.getD v13 R_iiii.z).a3]] ((L1.getD v13 R_iiii.z).a0) ((L1.getD v13 R_iiii.z).a1) ((L1.getD v13 R_iiii.z).a2) ((L1.getD v13 R_iiii.z).a3)  y4_0 N c4  5 rfl (by decide) (by decide))) <| obs_cons (dP_of (instr_TargetC0 #[Value.agg #[vi (L1.getD v13 R_iiii.z).a0, vi (L1.getD v13 R_iiii.z).a1, vi (L1.getD v13 R_iiii.z).a2, vi (L1.getD v13 R_iiii.z).a3]] ((L1.getD v13 R_iiii.z).a0) ((L1.getD v13 R_iiii.z).a1) ((L1.getD v13 R_iiii.z).a2) ((L1.getD v13 R_iiii.z).a3)  y2_0 true N c2  5 rfl (by decide) (by decide))) <| obs_cons ((show (o0 + v13 * 4 + 0) = (o0 + (v13 * 4)) from by omega) ▸ F1 v13 (by omega) 0 4 (show 0 + 4 ≤ 4 from by decide)) <| oB <| oI <| oY obs_nil) rfl (by decide) (by rfl) rr ⟨⟨rfl, ⟨[], by rfl⟩, by rfl⟩, ⟨rfl, ⟨rfl, trivial⟩⟩⟩
       ·
        refine Mach.ok_bind (fun z7 c7 => ?_)
        cases z7 with
        | r0 y7_0 y7_1 =>
         refine Mach.ok_ite (fun g8 => ?_) (fun g8 => ?_)
         ·
          refine Mach.ok_ite (fun g9 => ?_) (fun g9 => ?_)
          ·
           exact Mach.ok_next (M := prog_LinkM o0 L1 n2 n3 o4 L5 n6 n7 O1 O2 N) (cd := 1000000) (cm := 0) (y := (.h3m1 ((v4 ++ ([(⟨(L1.getD v13 R_iiii.z).a0, y7_0, y7_1, (L1.getD v13 R_iiii.z).a3⟩ : R_iiii)] : List R_iiii))) (v7) (v9) ((v13 + 1)) : prog_LinkX)) (fu := 4000) (orc := (orcw [(0, true), (1, false), (2, false)] [(1, (((v13 + 1) : Nat) : Int))] [(0, v13)] [(0, [.i (L1.getD v13 R_iiii.z).a0, .i (L1.getD v13 R_iiii.z).a1, .i (L1.getD v13 R_iiii.z).a2, .i (L1.getD v13 R_iiii.z).a3])] [(1, (instr_TargetT0 ((L1.getD v13 R_iiii.z).a0) ((L1.getD v13 R_iiii.z).a1) ((L1.getD v13 R_iiii.z).a2) ((L1.getD v13 R_iiii.z).a3)  y2_0 true  5)), (2, (instr_CheckT0 ((L1.getD v13 R_iiii.z).a0) ((L1.getD v13 R_iiii.z).a1) ((L1.getD v13 R_iiii.z).a2) ((L1.getD v13 R_iiii.z).a3)  y4_0  5)), (3, (instr_AimT0 ((L1.getD v13 R_iiii.z).a0) ((L1.getD v13 R_iiii.z).a1) ((L1.getD v13 R_iiii.z).a2) ((L1.getD v13 R_iiii.z).a3) ((IntKind.i64.wrap ((v7 : Int) + y2_0)))  y7_0 y7_1  5)), (4, .ap 1 [vi (L1.getD v13 R_iiii.z).a0, vi y7_0, vi y7_1, vi (L1.getD v13 R_iiii.z).a3] (rowV E_iiii (v4 ++ ([(⟨(L1.getD v13 R_iiii.z).a0, y7_0, y7_1, (L1.getD v13 R_iiii.z).a3⟩ : R_iiii)] : List R_iiii))))])) (live := [0, 1, 2, 6]) (tv := fun _ => [some (vs 6 0 (v4.length + 1) (v4.length + 1)), some (vs 1 o0 n2 n3), some (vi (v7 : Int)), some (vs 0 0 2 2), some (vi (2 : Int)), some (vi (v9 : Int)), some (vs 1 o0 n2 n3), some (vi (n2 : Int)), some (vi (((v13 + 1) : Nat) : Int))]) (bl := [some (.cells [vs 1 o0 n2 n3, vs 2 o4 n6 n7] 22), some (.ro O1), some (.ro O2), some (.cells (rowV E_iiii (v4 ++ ([(⟨(L1.getD v13 R_iiii.z).a0, y7_0, y7_1, (L1.getD v13 R_iiii.z).a3⟩ : R_iiii)] : List R_iiii))) 35)]) (ob := [((IntKind.i64.wrap ((v13 : Int) + (1 : Int))) == (((v13 + 1) : Nat) : Int), true), (dP ((1 = 1 ∧ takeN (1 * 4) (List.drop 0 [vi (L1.getD v13 R_iiii.z).a0, vi y7_0, vi y7_1, vi (L1.getD v13 R_iiii.z).a3]) = some [vi (L1.getD v13 R_iiii.z).a0, vi y7_0, vi y7_1, vi (L1.getD v13 R_iiii.z).a3] ∧ allB cell1 [vi (L1.getD v13 R_iiii.z).a0, vi y7_0, vi y7_1, vi (L1.getD v13 R_iiii.z).a3] = true) ∧ 0 < 1 ∧ 1 ≤ 100000 ∧ v4.length < v4.length + 1 ∧ v4.length ≤ 100000 ∧ v4.length * 4 ≤ (List.length (rowV E_iiii v4)) ∧ List.take (v4.length * 4) (rowV E_iiii v4) ++ [vi (L1.getD v13 R_iiii.z).a0, vi y7_0, vi y7_1, vi (L1.getD v13 R_iiii.z).a3] = (rowV E_iiii (v4 ++ ([(⟨(L1.getD v13 R_iiii.z).a0, y7_0, y7_1, (L1.getD v13 R_iiii.z).a3⟩ : R_iiii)] : List R_iiii)))), true), (dP (instr_AimP0 #[Value.agg #[vi (L1.getD v13 R_iiii.z).a0, vi (L1.getD v13 R_iiii.z).a1, vi (L1.getD v13 R_iiii.z).a2, vi (L1.getD v13 R_iiii.z).a3], vi (IntKind.i64.wrap ((v7 : Int) + y2_0))] ((L1.getD v13 R_iiii.z).a0) ((L1.getD v13 R_iiii.z).a1) ((L1.getD v13 R_iiii.z).a2) ((L1.getD v13 R_iiii.z).a3) ((IntKind.i64.wrap ((v7 : Int) + y2_0)))  y7_0 y7_1  5), true), ((decide (y2_0 > (n2 : Int))), false), ((y4_0 != (0 : Int)), false), (dP (instr_CheckP0 #[Value.agg #[vi (L1.getD v13 R_iiii.z).a0, vi (L1.getD v13 R_iiii.z).a1, vi (L1.getD v13 R_iiii.z).a2, vi (L1.getD v13 R_iiii.z).a3]] ((L1.getD v13 R_iiii.z).a0) ((L1.getD v13 R_iiii.z).a1) ((L1.getD v13 R_iiii.z).a2) ((L1.getD v13 R_iiii.z).a3)  y4_0  5), true), (dP (instr_TargetP0 #[Value.agg #[vi (L1.getD v13 R_iiii.z).a0, vi (L1.getD v13 R_iiii.z).a1, vi (L1.getD v13 R_iiii.z).a2, vi (L1.getD v13 R_iiii.z).a3]] ((L1.getD v13 R_iiii.z).a0) ((L1.getD v13 R_iiii.z).a1) ((L1.getD v13 R_iiii.z).a2) ((L1.getD v13 R_iiii.z).a3)  y2_0 true  5), true), (sameR (roRow O1 (o0 + (v13 * 4)) 4) [.i (L1.getD v13 R_iiii.z).a0, .i (L1.getD v13 R_iiii.z).a1, .i (L1.getD v13 R_iiii.z).a2, .i (L1.getD v13 R_iiii.z).a3], true), (Nat.blt v13 n2, true), ((v13 : Int) == Int.ofNat v13, true), ((decide ((v13 : Int) < (n2 : Int))), true)]) rfl (show 3 ∈ rids (prog_LinkK 3) from by decide +kernel) (fun gv => by kernel_rfl) (obs_cons (beq_iff_eq.2 ((wrap_i64 ltA).trans (by first | rfl | omega))) <| obs_cons (dP_of ⟨⟨rfl, ⟨rfl, rfl⟩⟩, by omega, by omega, ltA, by omega, (rowV_dst (E := E_iiii) (L := v4) (M := ([(⟨(L1.getD v13 R_iiii.z).a0, y7_0, y7_1, (L1.getD v13 R_iiii.z).a3⟩ : R_iiii)] : List R_iiii)) (n := v4.length) (show _ = _ * 4 from rfl) (by omega) (R := (v4 ++ ([(⟨(L1.getD v13 R_iiii.z).a0, y7_0, y7_1, (L1.getD v13 R_iiii.z).a3⟩ : R_iiii)] : List R_iiii))) (by rw [List.take_of_length_le (by omega)]))⟩) <| obs_cons (dP_of (instr_AimC0 #[Value.agg #[vi (L1.getD v13 R_iiii.z).a0, vi (L1.getD v13 R_iiii.z).a1, vi (L1.getD v13 R_iiii.z).a2, vi (L1.getD v13 R_iiii.z).a3], vi (IntKind.i64.wrap ((v7 : Int) + y2_0))] ((L1.getD v13 R_iiii.z).a0) ((L1.getD v13 R_iiii.z).a1) ((L1.getD v13 R_iiii.z).a2) ((L1.getD v13 R_iiii.z).a3) ((IntKind.i64.wrap ((v7 : Int) + y2_0)))  y7_0 y7_1 N c7  5 rfl (by decide) (by decide))) <| oN <| oE <| obs_cons (dP_of (instr_CheckC0 #[Value.agg #[vi (L1.getD v13 R_iiii.z).a0, vi (L1.getD v13 R_iiii.z).a1, vi (L1.getD v13 R_iiii.z).a2, vi (L1.getD v13 R_iiii.z).a3]] ((L1.getD v13 R_iiii.z).a0) ((L1.getD v13 R_iiii.z).a1) ((L1.getD v13 R_iiii.z).a2) ((L1.getD v13 R_iiii.z).a3)  y4_0 N c4  5 rfl (by decide) (by decide))) <| obs_cons (dP_of (instr_TargetC0 #[Value.agg #[vi (L1.getD v13 R_iiii.z).a0, vi (L1.getD v13 R_iiii.z).a1, vi (L1.getD v13 R_iiii.z).a2, vi (L1.getD v13 R_iiii.z).a3]] ((L1.getD v13 R_iiii.z).a0) ((L1.getD v13 R_iiii.z).a1) ((L1.getD v13 R_iiii.z).a2) ((L1.getD v13 R_iiii.z).a3)  y2_0 true N c2  5 rfl (by decide) (by decide))) <| obs_cons ((show (o0 + v13 * 4 + 0) = (o0 + (v13 * 4)) from by omega) ▸ F1 v13 (by omega) 0 4 (show 0 + 4 ≤ 4 from by decide)) <| oB <| oI <| oY obs_nil) rfl (by decide) (by rfl) (fun _ => ⟨⟨Eq.trans (show (vs 3 0 (v4 ++ ([(⟨(L1.getD v13 R_iiii.z).a0, y7_0, y7_1, (L1.getD v13 R_iiii.z).a3⟩ : R_iiii)] : List R_iiii)).length (v4 ++ ([(⟨(L1.getD v13 R_iiii.z).a0, y7_0, y7_1, (L1.getD v13 R_iiii.z).a3⟩ : R_iiii)] : List R_iiii)).length : Value) = vs 3 0 (v4.length + 1) (v4.length + 1) from (slice_eq rfl eqA eqA)) (by rfl), by rfl⟩, ⟨rr, ⟨rr, ⟨rr, ⟨rr, ⟨rr, ⟨rr, ⟨rr, ⟨rr, trivial⟩⟩⟩⟩⟩⟩⟩⟩⟩) ⟨⟨rfl, ⟨[], by rfl⟩, by rfl⟩, ⟨rfl, ⟨rfl, ⟨(same_row (E := E_iiii) (α := R_iiii) _ (v4 ++ ([(⟨(L1.getD v13 R_iiii.z).a0, y7_0, y7_1, (L1.getD v13 R_iiii.z).a3⟩ : R_iiii)] : List R_iiii)) _), trivial⟩⟩⟩⟩
          ·
           exact Mach.ok_none
         ·
          exact Mach.ok_none
    ·
     obtain rfl : y2_1 = false := by simpa using g3
     refine Mach.ok_bind (fun z4 c4 => ?_)
     cases z4 with
     | r0 y4_0 =>
      refine Mach.ok_ite (fun g5 => ?_) (fun g5 => ?_)
      ·
       exact Mach.ok_fin (M := prog_LinkM o0 L1 n2 n3 o4 L5 n6 n7 O1 O2 N) (cd := 1000000) (cm := 0) (r := (.r0 ((110 : Int)) : prog_LinkR)) (fu := 4000) (orc := (orcw [(0, true), (1, true)] [] [(0, v13)] [(0, [.i (L1.getD v13 R_iiii.z).a0, .i (L1.getD v13 R_iiii.z).a1, .i (L1.getD v13 R_iiii.z).a2, .i (L1.getD v13 R_iiii.z).a3])] [(1, (instr_TargetT0 ((L1.getD v13 R_iiii.z).a0) ((L1.getD v13 R_iiii.z).a1) ((L1.getD v13 R_iiii.z).a2) ((L1.getD v13 R_iiii.z).a3)  y2_0 false  5)), (2, (instr_CheckT0 ((L1.getD v13 R_iiii.z).a0) ((L1.getD v13 R_iiii.z).a1) ((L1.getD v13 R_iiii.z).a2) ((L1.getD v13 R_iiii.z).a3)  y4_0  5))])) (live := [0, 1, 2]) (u := Value.tuple #[vn, vi (110 : Int)]) (bl := [some (.cells [vs 1 o0 n2 n3, vs 2 o4 n6 n7] 22), some (.ro O1), some (.ro O2)]) (ob := [((y4_0 != (0 : Int)), true), (dP (instr_CheckP0 #[Value.agg #[vi (L1.getD v13 R_iiii.z).a0, vi (L1.getD v13 R_iiii.z).a1, vi (L1.getD v13 R_iiii.z).a2, vi (L1.getD v13 R_iiii.z).a3]] ((L1.getD v13 R_iiii.z).a0) ((L1.getD v13 R_iiii.z).a1) ((L1.getD v13 R_iiii.z).a2) ((L1.getD v13 R_iiii.z).a3)  y4_0  5), true), (dP (instr_TargetP0 #[Value.agg #[vi (L1.getD v13 R_iiii.z).a0, vi (L1.getD v13 R_iiii.z).a1, vi (L1.getD v13 R_iiii.z).a2, vi (L1.getD v13 R_iiii.z).a3]] ((L1.getD v13 R_iiii.z).a0) ((L1.getD v13 R_iiii.z).a1) ((L1.getD v13 R_iiii.z).a2) ((L1.getD v13 R_iiii.z).a3)  y2_0 false  5), true), (sameR (roRow O1 (o0 + (v13 * 4)) 4) [.i (L1.getD v13 R_iiii.z).a0, .i (L1.getD v13 R_iiii.z).a1, .i (L1.getD v13 R_iiii.z).a2, .i (L1.getD v13 R_iiii.z).a3], true), (Nat.blt v13 n2, true), ((v13 : Int) == Int.ofNat v13, true), ((decide ((v13 : Int) < (n2 : Int))), true)]) (fun gv => by kernel_rfl) (oD <| obs_cons (dP_of (instr_CheckC0 #[Value.agg #[vi (L1.getD v13 R_iiii.z).a0, vi (L1.getD v13 R_iiii.z).a1, vi (L1.getD v13 R_iiii.z).a2, vi (L1.getD v13 R_iiii.z).a3]] ((L1.getD v13 R_iiii.z).a0) ((L1.getD v13 R_iiii.z).a1) ((L1.getD v13 R_iiii.z).a2) ((L1.getD v13 R_iiii.z).a3)  y4_0 N c4  5 rfl (by decide) (by decide))) <| obs_cons (dP_of (instr_TargetC0 #[Value.agg #[vi (L1.getD v13 R_iiii.z).a0, vi (L1.getD v13 R_iiii.z).a1, vi (L1.getD v13 R_iiii.z).a2, vi (L1.getD v13 R_iiii.z).a3]] ((L1.getD v13 R_iiii.z).a0) ((L1.getD v13 R_iiii.z).a1) ((L1.getD v13 R_iiii.z).a2) ((L1.getD v13 R_iiii.z).a3)  y2_0 false N c2  5 rfl (by decide) (by decide))) <| obs_cons ((show (o0 + v13 * 4 + 0) = (o0 + (v13 * 4)) from by omega) ▸ F1 v13 (by omega) 0 4 (show 0 + 4 ≤ 4 from by decide)) <| oB <| oI <| oY obs_nil) rfl (by decide) (by rfl) rr ⟨⟨rfl, ⟨[], by rfl⟩, by rfl⟩, ⟨rfl, ⟨rfl, trivial⟩⟩⟩
      ·
       refine Mach.ok_bind (fun z6 c6 => ?_)
       cases z6 with
       | r0 y6_0 y6_1 =>
        refine Mach.ok_ite (fun g7 => ?_) (fun g7 => ?_)
        ·
         refine Mach.ok_ite (fun g8 => ?_) (fun g8 => ?_)
         ·
          exact Mach.ok_next (M := prog_LinkM o0 L1 n2 n3 o4 L5 n6 n7 O1 O2 N) (cd := 1000000) (cm := 0) (y := (.h3m1 ((v4 ++ ([(⟨(L1.getD v13 R_iiii.z).a0, y6_0, y6_1, (L1.getD v13 R_iiii.z).a3⟩ : R_iiii)] : List R_iiii))) (v7) (v9) ((v13 + 1)) : prog_LinkX)) (fu := 4000) (orc := (orcw [(0, true), (1, false)] [(1, (((v13 + 1) : Nat) : Int))] [(0, v13)] [(0, [.i (L1.getD v13 R_iiii.z).a0, .i (L1.getD v13 R_iiii.z).a1, .i (L1.getD v13 R_iiii.z).a2, .i (L1.getD v13 R_iiii.z).a3])] [(1, (instr_TargetT0 ((L1.getD v13 R_iiii.z).a0) ((L1.getD v13 R_iiii.z).a1) ((L1.getD v13 R_iiii.z).a2) ((L1.getD v13 R_iiii.z).a3)  y2_0 false  5)), (2, (instr_CheckT0 ((L1.getD v13 R_iiii.z).a0) ((L1.getD v13 R_iiii.z).a1) ((L1.getD v13 R_iiii.z).a2) ((L1.getD v13 R_iiii.z).a3)  y4_0  5)), (3, (instr_AimT0 ((L1.getD v13 R_iiii.z).a0) ((L1.getD v13 R_iiii.z).a1) ((L1.getD v13 R_iiii.z).a2) ((L1.getD v13 R_iiii.z).a3) ((IntKind.i64.wrap ((v7 : Int) + y2_0)))  y6_0 y6_1  5)), (4, .ap 1 [vi (L1.getD v13 R_iiii.z).a0, vi y6_0, vi y6_1, vi (L1.getD v13 R_iiii.z).a3] (rowV E_iiii (v4 ++ ([(⟨(L1.getD v13 R_iiii.z).a0, y6_0, y6_1, (L1.getD v13 R_iiii.z).a3⟩ : R_iiii)] : List R_iiii))))])) (live := [0, 1, 2, 6]) (tv := fun _ => [some (vs 6 0 (v4.length + 1) (v4.length + 1)), some (vs 1 o0 n2 n3), some (vi (v7 : Int)), some (vs 0 0 2 2), some (vi (2 : Int)), some (vi (v9 : Int)), some (vs 1 o0 n2 n3), some (vi (n2 : Int)), some (vi (((v13 + 1) : Nat) : Int))]) (bl := [some (.cells [vs 1 o0 n2 n3, vs 2 o4 n6 n7] 22), some (.ro O1), some (.ro O2), some (.cells (rowV E_iiii (v4 ++ ([(⟨(L1.getD v13 R_iiii.z).a0, y6_0, y6_1, (L1.getD v13 R_iiii.z).a3⟩ : R_iiii)] : List R_iiii))) 35)]) (ob := [((IntKind.i64.wrap ((v13 : Int) + (1 : Int))) == (((v13 + 1) : Nat) : Int), true), (dP ((1 = 1 ∧ takeN (1 * 4) (List.drop 0 [vi (L1.getD v13 R_iiii.z).a0, vi y6_0, vi y6_1, vi (L1.getD v13 R_iiii.z).a3]) = some [vi (L1.getD v13 R_iiii.z).a0, vi y6_0, vi y6_1, vi (L1.getD v13 R_iiii.z).a3] ∧ allB cell1 [vi (L1.getD v13 R_iiii.z).a0, vi y6_0, vi y6_1, vi (L1.getD v13 R_iiii.z).a3] = true) ∧ 0 < 1 ∧ 1 ≤ 100000 ∧ v4.length < v4.length + 1 ∧ v4.length ≤ 100000 ∧ v4.length * 4 ≤ (List.length (rowV E_iiii v4)) ∧ List.take (v4.length * 4) (rowV E_iiii v4) ++ [vi (L1.getD v13 R_iiii.z).a0, vi y6_0, vi y6_1, vi (L1.getD v13 R_iiii.z).a3] = (rowV E_iiii (v4 ++ ([(⟨(L1.getD v13 R_iiii.z).a0, y6_0, y6_1, (L1.getD v13 R_iiii.z).a3⟩ : R_iiii)] : List R_iiii)))), true), (dP (instr_AimP0 #[Value.agg #[vi (L1.getD v13 R_iiii.z).a0, vi (L1.getD v13 R_iiii.z).a1, vi (L1.getD v13 R_iiii.z).a2, vi (L1.getD v13 R_iiii.z).a3], vi (IntKind.i64.wrap ((v7 : Int) + y2_0))] ((L1.getD v13 R_iiii.z).a0) ((L1.getD v13 R_iiii.z).a1) ((L1.getD v13 R_iiii.z).a2) ((L1.getD v13 R_iiii.z).a3) ((IntKind.i64.wrap ((v7 : Int) + y2_0)))  y6_0 y6_1  5), true), ((y4_0 != (0 : Int)), false), (dP (instr_CheckP0 #[Value.agg #[vi (L1.getD v13 R_iiii.z).a0, vi (L1.getD v13 R_iiii.z).a1, vi (L1.getD v13 R_iiii.z).a2, vi (L1.getD v13 R_iiii.z).a3]] ((L1.getD v13 R_iiii.z).a0) ((L1.getD v13 R_iiii.z).a1) ((L1.getD v13 R_iiii.z).a2) ((L1.getD v13 R_iiii.z).a3)  y4_0  5), true), (dP (instr_TargetP0 #[Value.agg #[vi (L1.getD v13 R_iiii.z).a0, vi (L1.getD v13 R_iiii.z).a1, vi (L1.getD v13 R_iiii.z).a2, vi (L1.getD v13 R_iiii.z).a3]] ((L1.getD v13 R_iiii.z).a0) ((L1.getD v13 R_iiii.z).a1) ((L1.getD v13 R_iiii.z).a2) ((L1.getD v13 R_iiii.z).a3)  y2_0 false  5), true), (sameR (roRow O1 (o0 + (v13 * 4)) 4) [.i (L1.getD v13 R_iiii.z).a0, .i (L1.getD v13 R_iiii.z).a1, .i (L1.getD v13 R_iiii.z).a2, .i (L1.getD v13 R_iiii.z).a3], true), (Nat.blt v13 n2, true), ((v13 : Int) == Int.ofNat v13, true), ((decide ((v13 : Int) < (n2 : Int))), true)]) rfl (show 3 ∈ rids (prog_LinkK 3) from by decide +kernel) (fun gv => by kernel_rfl) (obs_cons (beq_iff_eq.2 ((wrap_i64 ltA).trans (by first | rfl | omega))) <| obs_cons (dP_of ⟨⟨rfl, ⟨rfl, rfl⟩⟩, by omega, by omega, ltA, by omega, (rowV_dst (E := E_iiii) (L := v4) (M := ([(⟨(L1.getD v13 R_iiii.z).a0, y6_0, y6_1, (L1.getD v13 R_iiii.z).a3⟩ : R_iiii)] : List R_iiii)) (n := v4.length) (show _ = _ * 4 from rfl) (by omega) (R := (v4 ++ ([(⟨(L1.getD v13 R_iiii.z).a0, y6_0, y6_1, (L1.getD v13 R_iiii.z).a3⟩ : R_iiii)] : List R_iiii))) (by rw [List.take_of_length_le (by omega)]))⟩) <| obs_cons (dP_of (instr_AimC0 #[Value.agg #[vi (L1.getD v13 R_iiii.z).a0, vi (L1.getD v13 R_iiii.z).a1, vi (L1.getD v13 R_iiii.z).a2, vi (L1.getD v13 R_iiii.z).a3], vi (IntKind.i64.wrap ((v7 : Int) + y2_0))] ((L1.getD v13 R_iiii.z).a0) ((L1.getD v13 R_iiii.z).a1) ((L1.getD v13 R_iiii.z).a2) ((L1.getD v13 R_iiii.z).a3) ((IntKind.i64.wrap ((v7 : Int) + y2_0)))  y6_0 y6_1 N c6  5 rfl (by decide) (by decide))) <| oE <| obs_cons (dP_of (instr_CheckC0 #[Value.agg #[vi (L1.getD v13 R_iiii.z).a0, vi (L1.getD v13 R_iiii.z).a1, vi (L1.getD v13 R_iiii.z).a2, vi (L1.getD v13 R_iiii.z).a3]] ((L1.getD v13 R_iiii.z).a0) ((L1.getD v13 R_iiii.z).a1) ((L1.getD v13 R_iiii.z).a2) ((L1.getD v13 R_iiii.z).a3)  y4_0 N c4  5 rfl (by decide) (by decide))) <| obs_cons (dP_of (instr_TargetC0 #[Value.agg #[vi (L1.getD v13 R_iiii.z).a0, vi (L1.getD v13 R_iiii.z).a1, vi (L1.getD v13 R_iiii.z).a2, vi (L1.getD v13 R_iiii.z).a3]] ((L1.getD v13 R_iiii.z).a0) ((L1.getD v13 R_iiii.z).a1) ((L1.getD v13 R_iiii.z).a2) ((L1.getD v13 R_iiii.z).a3)  y2_0 false N c2  5 rfl (by decide) (by decide))) <| obs_cons ((show (o0 + v13 * 4 + 0) = (o0 + (v13 * 4)) from by omega) ▸ F1 v13 (by omega) 0 4 (show 0 + 4 ≤ 4 from by decide)) <| oB <| oI <| oY obs_nil) rfl (by decide) (by rfl) (fun _ => ⟨⟨Eq.trans (show (vs 3 0 (v4 ++ ([(⟨(L1.getD v13 R_iiii.z).a0, y6_0, y6_1, (L1.getD v13 R_iiii.z).a3⟩ : R_iiii)] : List R_iiii)).length (v4 ++ ([(⟨(L1.getD v13 R_iiii.z).a0, y6_0, y6_1, (L1.getD v13 R_iiii.z).a3⟩ : R_iiii)] : List R_iiii)).length : Value) = vs 3 0 (v4.length + 1) (v4.length + 1) from (slice_eq rfl eqA eqA)) (by rfl), by rfl⟩, ⟨rr, ⟨rr, ⟨rr, ⟨rr, ⟨rr, ⟨rr, ⟨rr, ⟨rr, trivial⟩⟩⟩⟩⟩⟩⟩⟩⟩) ⟨⟨rfl, ⟨[], by rfl⟩, by rfl⟩, ⟨rfl, ⟨rfl, ⟨(same_row (E := E_iiii) (α := R_iiii) _ (v4 ++ ([(⟨(L1.getD v13 R_iiii.z).a0, y6_0, y6_1, (L1.getD v13 R_iiii.z).a3⟩ : R_iiii)] : List R_iiii)) _), trivial⟩⟩⟩⟩
         ·
          exact Mach.ok_none
        ·
         exact Mach.ok_none
  ·
   exact Mach.ok_none
 ·
  refine Mach.ok_ite (fun g1 => ?_) (fun g1 => ?_)
  ·
   exact Mach.ok_next (M := prog_LinkM o0 L1 n2 n3 o4 L5 n6 n7 O1 O2 N) (cd := 1000000) (cm := 0) (y := (.h2m1 (v4) ((v9 + 1)) : prog_LinkX)) (fu := 4000) (orc := (orcw [(0, false)] [(0, (((v9 + 1) : Nat) : Int))] [] [] [])) (live := [0, 1, 2, 3]) (tv := fun _ => [some (vs 3 0 v4.length v4.length), some (vs 0 0 2 2), some (vi (2 : Int)), some (vi (((v9 + 1) : Nat) : Int))]) (bl := [some (.cells [vs 1 o0 n2 n3, vs 2 o4 n6 n7] 22), some (.ro O1), some (.ro O2), some (.cells (rowV E_iiii v4) 35)]) (ob := [((IntKind.i64.wrap ((v9 : Int) + (1 : Int))) == (((v9 + 1) : Nat) : Int), true), ((decide ((v13 : Int) < (n2 : Int))), false)]) rfl (show 2 ∈ rids (prog_LinkK 3) from by decide +kernel) (fun gv => by kernel_rfl) (obs_cons (beq_iff_eq.2 ((wrap_i64 ltA).trans (by first | rfl | omega))) <| oN obs_nil) rfl (by decide) (by rfl) (fun _ => ⟨rr, ⟨rr, ⟨rr, ⟨rr, trivial⟩⟩⟩⟩) ⟨⟨rfl, ⟨[], by rfl⟩, by rfl⟩, ⟨rfl, ⟨rfl, ⟨(same_row (E := E_iiii) (α := R_iiii) _ v4 _), trivial⟩⟩⟩⟩
  ·
   exact Mach.ok_none

theorem prog_Link_ok3_2 (o0 : Nat) (L1 : List R_iiii) (n2 n3 o4 : Nat) (L5 : List R_iiii) (n6 n7 : Nat) (O1 : Obj) (F1 : RO_iiii O1 o0 L1) (O2 : Obj) (F2 : RO_iiii O2 o4 L5) (v8 N : Nat) : (prog_LinkM o0 L1 n2 n3 o4 L5 n6 n7 O1 O2 N).Ok Try.prog ext_Pp (.h3m2 v8 : prog_LinkX) (prog_LinkStep L1 n2 n3 L5 n6 n7 N (.h3m2 v8 : prog_LinkX)) := by
 show (prog_LinkM o0 L1 n2 n3 o4 L5 n6 n7 O1 O2 N).Ok Try.prog ext_Pp (.h3m2 v8 : prog_LinkX) (prog_Link_h3m2 L1 n2 n3 L5 n6 n7 N v8)
 unfold prog_Link_h3m2
 refine Mach.ok_ite (fun g0 => ?_) (fun g0 => ?_)
 ·
  refine Mach.ok_ite (fun g1 => ?_) (fun g1 => ?_)
  ·
   refine Mach.ok_bind (fun z2 c2 => ?_)
   cases z2 with
   | r0 y2_0 y2_1 =>
    refine Mach.ok_ite (fun g3 => ?_) (fun g3 => ?_)
    ·
     subst g3
     refine Mach.ok_bind (fun z4 c4 => ?_)
     cases z4 with
     | r0 y4_0 =>
      refine Mach.ok_ite (fun g5 => ?_) (fun g5 => ?_)
      ·
       exact Mach.ok_fin (M := prog_LinkM o0 L1 n2 n3 o4 L5 n6 n7 O1 O2 N) (cd := 1000000) (cm := 0) (r := (.r0 ((110 : Int)) : prog_LinkR)) (fu := 4000) (orc := (orcw [(0, true), (1, true)] [] [(0, 0)] [(0, [.i (L5.getD 0 R_iiii.z).a0, .i (L5.getD 0 R_iiii.z).a1, .i (L5.getD 0 R_iiii.z).a2, .i (L5.getD 0 R_iiii.z).a3])] [(1, (instr_TargetT0 ((L5.getD 0 R_iiii.z).a0) ((L5.getD 0 R_iiii.z).a1) ((L5.getD 0 R_iiii.z).a2) ((L5.getD 0 R_iiii.z).a3)  y2_0 true  4)), (2, (instr_CheckT0 ((L5.getD 0 R_iiii.z).a0) ((L5.getD 0 R_iiii.z).a1) ((L5.getD 0 R_iiii.z).a2) ((L5.getD 0 R_iiii.z).a3)  y4_0  4))])) (live := [0, 1, 2]) (u := Value.tuple #[vn, vi (110 : Int)]) (bl := [some (.cells [vs 1 o0 n2 n3, vs 2 o4 n6 n7] 22), some (.ro O1), some (.ro O2)]) (ob := [((y4_0 != (0 : Int)), true), (dP (instr_CheckP0 #[Value.agg #[vi (L5.getD 0 R_iiii.z).a0, vi (L5.getD 0 R_iiii.z).a1, vi (L5.getD 0 R_iiii.z).a2, vi (L5.getD 0 R_iiii.z).a3]] ((L5.getD 0 R_iiii.z).a0) ((L5.getD 0 R_iiii.z).a1) ((L5.getD 0 R_iiii.z).a2) ((L5.getD 0 R_iiii.z).a3)  y4_0  4), true), (dP (instr_TargetP0 #[Value.agg #[vi (L5.getD 0 R_iiii.z).a0, vi (L5.getD 0 R_iiii.z).a1, vi (L5.getD 0 R_iiii.z).a2, vi (L5.getD 0 R_iiii.z).a3]] ((L5.getD 0 R_iiii.z).a0) ((L5.getD 0 R_iiii.z).a1) ((L5.getD 0 R_iiii.z).a2) ((L5.getD 0 R_iiii.z).a3)  y2_0 true  4), true), (sameR (roRow O2 (o4 + (0 * 4)) 4) [.i (L5.getD 0 R_iiii.z).a0, .i (L5.getD 0 R_iiii.z).a1, .i (L5.getD 0 R_iiii.z).a2, .i (L5.getD 0 R_iiii.z).a3], true), (Nat.blt 0 n6, true), ((0 : Int) == Int.ofNat 0, true), ((decide ((0 : Int) < (n6 : Int))), true)]) (fun gv => by kernel_rfl) (oD <| obs_cons (dP_of (instr_CheckC0 #[Value.agg #[vi (L5.getD 0 R_iiii.z).a0, vi (L5.getD 0 R_iiii.z).a1, vi (L5.getD 0 R_iiii.z).a2, vi (L5.getD 0 R_iiii.z).a3]] ((L5.getD 0 R_iiii.z).a0) ((L5.getD 0 R_iiii.z).a1) ((L5.getD 0 R_iiii.z).a2) ((L5.getD 0 R_iiii.z).a3)  y4_0 N c4  4 rfl (by decide) (by decide))) <| obs_cons (dP_of (instr_TargetC0 #[Value.agg #[vi (L5.getD 0 R_iiii.z).a0, vi (L5.getD 0 R_iiii.z).a1, vi (L5.getD 0 R_iiii.z).a2, vi (L5.getD 0 R_iiii.z).a3]] ((L5.getD 0 R_iiii.z).a0) ((L5.getD 0 R_iiii.z).a1) ((L5.getD 0 R_iiii.z).a2) ((L5.getD 0 R_iiii.z).a3)  y2_0 true N c2  4 rfl (by decide) (by decide))) <| obs_cons ((show (o4 + 0 * 4 + 0) = (o4 + (0 * 4)) from by omega) ▸ F2 0 (by omega) 0 4 (show 0 + 4 ≤ 4 from by decide)) <| oB <| oI <| oY obs_nil) rfl (by decide) (by rfl) rr ⟨⟨rfl, ⟨[], by rfl⟩, by rfl⟩, ⟨rfl, ⟨rfl, trivial⟩⟩⟩
      ·
       refine Mach.ok_ite (fun g6 => ?_) (fun g6 => ?_)
       ·
        exact Mach.ok_fin (M := prog_LinkM o0 L1 n2 n3 o4 L5 n6 n7 O1 O2 N) (cd := 1000000) (cm := 0) (r := (.r0 ((110 : Int)) : prog_LinkR)) (fu := 4000) (orc := (orcw [(0, true), (1, false), (2, true)] [] [(0, 0)] [(0, [.i (L5.getD 0 R_iiii.z).a0, .i (L5.getD 0 R_iiii.z).a1, .i (L5.getD 0 R_iiii.z).a2, .i (L5.getD 0 R_iiii.z).a3])] [(1, (instr_TargetT0 ((L5.getD 0 R_iiii.z).a0) ((L5.getD 0 R_iiii.z).a1) ((L5.getD 0 R_iiii.z).a2) ((L5.getD 0 R_iiii.z).a3)  y2_0 true  4)), (2, (instr_CheckT0 ((L5.getD 0 R_iiii.z).a0) ((L5.getD 0 R_iiii.z).a1) ((L5.getD 0 R_iiii.z).a2) ((L5.getD 0 R_iiii.z).a3)  y4_0  4))])) (live := [0, 1, 2]) (u := Value.tuple #[vn, vi (110 : Int)]) (bl := [some (.cells [vs 1 o0 n2 n3, vs 2 o4 n6 n7] 22), some (.ro O1), some (.ro O2)]) (ob := [((decide (y2_0 > (n6 : Int))), true), ((y4_0 != (0 : Int)), false), (dP (instr_CheckP0 #[Value.agg #[vi (L5.getD 0 R_iiii.z).a0, vi (L5.getD 0 R_iiii.z).a1, vi (L5.getD 0 R_iiii.z).a2, vi (L5.getD 0 R_iiii.z).a3]] ((L5.getD 0 R_iiii.z).a0) ((L5.getD 0 R_iiii.z).a1) ((L5.getD 0 R_iiii.z).a2) ((L5.getD 0 R_iiii.z).a3)  y4_0  4), true), (dP (instr_TargetP0 #[Value.agg #[vi (L5.getD 0 R_iiii.z).a0, vi (L5.getD 0 R_iiii.z).a1, vi (L5.getD 0 R_iiii.z).a2, vi (L5.getD 0 R_iiii.z).a3]] ((L5.getD 0 R_iiii.z).a0) ((L5.getD 0 R_iiii.z).a1) ((L5.getD 0 R_iiii.z).a2) ((L5.getD 0 R_iiii.z).a3)  y2_0 true  4), true), (sameR (roRow O2 (o4 + (0 * 4)) 4) [.i (L5.getD 0 R_iiii.z).a0, .i (L5.getD 0 R_iiii.z).a1, .i (L5.getD 0 R_iiii.z).a2, .i (L5.getD 0 R_iiii.z).a3], true), (Nat.blt 0 n6, true), ((0 : Int) == Int.ofNat 0, true), ((decide ((0 : Int) < (n6 : Int))), true)]) (fun gv => by kernel_rfl) (oY <| oE <| obs_cons (dP_of (instr_CheckC0 #[Value.agg #[vi (L5.getD 0 R_iiii.z).a0, vi (L5.getD 0 R_iiii.z).a1, vi (L5.getD 0 R_iiii.z).a2, vi (L5.getD 0 R_iiii.z).a3]] ((L5.getD 0 R_iiii.z).a0) ((L5.getD 0 R_iiii.z).a1) ((L5.getD 0 R_iiii.z).a2) ((L5.getD 0 R_iiii.z).a3)  y4_0 N c4  4 rfl (by decide) (by decide))) <| obs_cons (dP_of (instr_TargetC0 #[Value.agg #[vi (L5.getD 0 R_iiii.z).a0, vi (L5.getD 0 R_iiii.z).a1, vi (L5.getD 0 R_iiii.z).a2, vi (L5.getD 0 R_iiii.z).a3]] ((L5.getD 0 R_iiii.z).a0) ((L5.getD 0 R_iiii.z).a1) ((L5.getD 0 R_iiii.z).a2) ((L5.getD 0 R_iiii.z).a3)  y2_0 true N c2  4 rfl (by decide) (by decide))) <| obs_cons ((show (o4 + 0 * 4 + 0) = (o4 + (0 * 4)) from by omega) ▸ F2 0 (by omega) 0 4 (show 0 + 4 ≤ 4 from by decide)) <| oB <| oI <| oY obs_nil) rfl (by decide) (by rfl) rr ⟨⟨rfl, ⟨[], by rfl⟩, by rfl⟩, ⟨rfl, ⟨rfl, trivial⟩⟩⟩
       ·
        refine Mach.ok_bind (fun z7 c7 => ?_)
        cases z7 with
        | r0 y7_0 y7_1 =>
         exact Mach.ok_next (M := prog_LinkM o0 L1 n2 n3 o4 L5 n6 n7 O1 O2 N) (cd := 1000000) (cm := 0) (y := (.h3m3 (([(⟨(L5.getD 0 R_iiii.z).a0, y7_0, y7_1, (L5.getD 0 R_iiii.z).a3⟩ : R_iiii)] : List R_iiii)) (0) (v8) (1) : prog_LinkX)) (fu := 4000) (orc := (orcw [(0, true), (1, false), (2, false)] [] [(0, 0)] [(0, [.i (L5.getD 0 R_iiii.z).a0, .i (L5.getD 0 R_iiii.z).a1, .i (L5.getD 0 R_iiii.z).a2, .i (L5.getD 0 R_iiii.z).a3])] [(1, (instr_TargetT0 ((L5.getD 0 R_iiii.z).a0) ((L5.getD 0 R_iiii.z).a1) ((L5.getD 0 R_iiii.z).a2) ((L5.getD 0 R_iiii.z).a3)  y2_0 true  4)), (2, (instr_CheckT0 ((L5.getD 0 R_iiii.z).a0) ((L5.getD 0 R_iiii.z).a1) ((L5.getD 0 R_iiii.z).a2) ((L5.getD 0 R_iiii.z).a3)  y4_0  4)), (3, (instr_AimT0 ((L5.getD 0 R_iiii.z).a0) ((L5.getD 0 R_iiii.z).a1) ((L5.getD 0 R_iiii.z).a2) ((L5.getD 0 R_iiii.z).a3) ((IntKind.i64.wrap ((0 : Int) + y2_0)))  y7_0 y7_1  4))])) (live := [0, 1, 2, 5]) (tv := fun _ => [some (vs 5 0 1 1), some (vs 2 o4 n6 n7), some (v0), some (vs 0 0 2 2), some (vi (2 : Int)), some (vi (v8 : Int)), some (vs 2 o4 n6 n7), some (vi (n6 : Int)), some (vi (1 : Int))]) (bl := [some (.cells [vs 1 o0 n2 n3, vs 2 o4 n6 n7] 22), some (.ro O1), some (.ro O2), some (.cells [vi (L5.getD 0 R_iiii.z).a0, vi y7_0, vi y7_1, vi (L5.getD 0 R_iiii.z).a3] 35)]) (ob := [(dP (instr_AimP0 #[Value.agg #[vi (L5.getD 0 R_iiii.z).a0, vi (L5.getD 0 R_iiii.z).a1, vi (L5.getD 0 R_iiii.z).a2, vi (L5.getD 0 R_iiii.z).a3], vi (IntKind.i64.wrap ((0 : Int) + y2_0))] ((L5.getD 0 R_iiii.z).a0) ((L5.getD 0 R_iiii.z).a1) ((L5.getD 0 R_iiii.z).a2) ((L5.getD 0 R_iiii.z).a3) ((IntKind.i64.wrap ((0 : Int) + y2_0)))  y7_0 y7_1  4), true), ((decide (y2_0 > (n6 : Int))), false), ((y4_0 != (0 : Int)), false), (dP (instr_CheckP0 #[Value.agg #[vi (L5.getD 0 R_iiii.z).a0, vi (L5.getD 0 R_iiii.z).a1, vi (L5.getD 0 R_iiii.z).a2, vi (L5.getD 0 R_iiii.z).a3]] ((L5.getD 0 R_iiii.z).a0) ((L5.getD 0 R_iiii.z).a1) ((L5.getD 0 R_iiii.z).a2) ((L5.getD 0 R_iiii.z).a3)  y4_0  4), true), (dP (instr_TargetP0 #[Value.agg #[vi (L5.getD 0 R_iiii.z).a0, vi (L5.getD 0 R_iiii.z).a1, vi (L5.getD 0 R_iiii.z).a2, vi (L5.getD 0 R_iiii.z).a3]] ((L5.getD 0 R_iiii.z).a0) ((L5.getD 0 R_iiii.z).a1) ((L5.getD 0 R_iiii.z).a2) ((L5.getD 0 R_iiii.z).a3)  y2_0 true  4), true), (sameR (roRow O2 (o4 + (0 * 4)) 4) [.i (L5.getD 0 R_iiii.z).a0, .i (L5.getD 0 R_iiii.z).a1, .i (L5.getD 0 R_iiii.z).a2, .i (L5.getD 0 R_iiii.z).a3], true), (Nat.blt 0 n6, true), ((0 : Int) == Int.ofNat 0, true), ((decide ((0 : Int) < (n6 : Int))), true)]) rfl (show 3 ∈ rids (prog_LinkK 3) from by decide +kernel) (fun gv => by kernel_rfl) (obs_cons (dP_of (instr_AimC0 #[Value.agg #[vi (L5.getD 0 R_iiii.z).a0, vi (L5.getD 0 R_iiii.z).a1, vi (L5.getD 0 R_iiii.z).a2, vi (L5.getD 0 R_iiii.z).a3], vi (IntKind.i64.wrap ((0 : Int) + y2_0))] ((L5.getD 0 R_iiii.z).a0) ((L5.getD 0 R_iiii.z).a1) ((L5.getD 0 R_iiii.z).a2) ((L5.getD 0 R_iiii.z).a3) ((IntKind.i64.wrap ((0 : Int) + y2_0)))  y7_0 y7_1 N c7  4 rfl (by decide) (by decide))) <| oN <| oE <| obs_cons (dP_of (instr_CheckC0 #[Value.agg #[vi (L5.getD 0 R_iiii.z).a0, vi (L5.getD 0 R_iiii.z).a1, vi (L5.getD 0 R_iiii.z).a2, vi (L5.getD 0 R_iiii.z).a3]] ((L5.getD 0 R_iiii.z).a0) ((L5.getD 0 R_iiii.z).a1) ((L5.getD 0 R_iiii.z).a2) ((L5.getD 0 R_iiii.z).a3)  y4_0 N c4  4 rfl (by decide) (by decide))) <| obs_cons (dP_of (instr_TargetC0 #[Value.agg #[vi (L5.getD 0 R_iiii.z).a0, vi (L5.getD 0 R_iiii.z).a1, vi (L5.getD 0 R_iiii.z).a2, vi (L5.getD 0 R_iiii.z).a3]] ((L5.getD 0 R_iiii.z).a0) ((L5.getD 0 R_iiii.z).a1) ((L5.getD 0 R_iiii.z).a2) ((L5.getD 0 R_iiii.z).a3)  y2_0 true N c2  4 rfl (by decide) (by decide))) <| obs_cons ((show (o4 + 0 * 4 + 0) = (o4 + (0 * 4)) from by omega) ▸ F2 0 (by omega) 0 4 (show 0 + 4 ≤ 4 from by decide)) <| oB <| oI <| oY obs_nil) rfl (by decide) (by rfl) (fun _ => ⟨⟨Eq.trans (show (vs 3 0 ([(⟨(L5.getD 0 R_iiii.z).a0, y7_0, y7_1, (L5.getD 0 R_iiii.z).a3⟩ : R_iiii)] : List R_iiii).length ([(⟨(L5.getD 0 R_iiii.z).a0, y7_0, y7_1, (L5.getD 0 R_iiii.z).a3⟩ : R_iiii)] : List R_iiii).length : Value) = vs 3 0 1 1 from (slice_eq rfl eqA eqA)) (by rfl), by rfl⟩, ⟨rr, ⟨⟨Eq.trans (show (vi ((0 : Nat) : Int) : Value) = v0 from (congrArg (Value.int .i64) (by first | rfl | omega))) (by rfl), by rfl⟩, ⟨rr, ⟨rr, ⟨rr, ⟨rr, ⟨rr, ⟨⟨Eq.trans (show (vi ((1 : Nat) : Int) : Value) = vi (1 : Int) from (congrArg (Value.int .i64) (by first | rfl | omega))) (by rfl), by rfl⟩, trivial⟩⟩⟩⟩⟩⟩⟩⟩⟩) ⟨⟨rfl, ⟨[], by rfl⟩, by rfl⟩, ⟨rfl, ⟨rfl, ⟨(same_cells (E := E_iiii) _ (L := ([(⟨(L5.getD 0 R_iiii.z).a0, y7_0, y7_1, (L5.getD 0 R_iiii.z).a3⟩ : R_iiii)] : List R_iiii)) _ (show ([vi (L5.getD 0 R_iiii.z).a0, vi y7_0, vi y7_1, vi (L5.getD 0 R_iiii.z).a3] : List Value) = rowV E_iiii ([(⟨(L5.getD 0 R_iiii.z).a0, y7_0, y7_1, (L5.getD 0 R_iiii.z).a3⟩ : R_iiii)] : List R_iiii) from rfl)), trivial⟩⟩⟩⟩
    ·
     obtain rfl : y2_1 = false := by simpa using g3
     refine Mach.ok_bind (fun z4 c4 => ?_)
     cases z4 with
     | r0 y4_0 =>
      refine Mach.ok_ite (fun g5 => ?_) (fun g5 => ?_)
      ·
       exact Mach.ok_fin (M := prog_LinkM o0 L1 n2 n3 o4 L5 n6 n7 O1 O2 N) (cd := 1000000) (cm := 0) (r := (.r0 ((110 : Int)) : prog_LinkR)) (fu := 4000) (orc := (orcw [(0, true), (1, true)] [] [(0, 0)] [(0, [.i (L5.getD 0 R_iiii.z).a0, .i (L5.getD 0 R_iiii.z).a1, .i (L5.getD 0 R_iiii.z).a2, .i (L5.getD 0 R_iiii.z).a3])] [(1, (instr_TargetT0 ((L5.getD 0 R_iiii.z).a0) ((L5.getD 0 R_iiii.z).a1) ((L5.getD 0 R_iiii.z).a2) ((L5.getD 0 R_iiii.z).a3)  y2_0 false  4)), (2, (instr_CheckT0 ((L5.getD 0 R_iiii.z).a0) ((L5.getD 0 R_iiii.z).a1) ((L5.getD 0 R_iiii.z).a2) ((L5.getD 0 R_iiii.z).a3)  y4_0  4))])) (live := [0, 1, 2]) (u := Value.tuple #[vn, vi (110 : Int)]) (bl := [some (.cells [vs 1 o0 n2 n3, vs 2 o4 n6 n7] 22), some (.ro O1), some (.ro O2)]) (ob := [((y4_0 != (0 : Int)), true), (dP (instr_CheckP0 #[Value.agg #[vi (L5.getD 0 R_iiii.z).a0, vi (L5.getD 0 R_iiii.z).a1, vi (L5.getD 0 R_iiii.z).a2, vi (L5.getD 0 R_iiii.z).a3]] ((L5.getD 0 R_iiii.z).a0) ((L5.getD 0 R_iiii.z).a1) ((L5.getD 0 R_iiii.z).a2) ((L5.getD 0 R_iiii.z).a3)  y4_0  4), true), (dP (instr_TargetP0 #[Value.agg #[vi (L5.getD 0 R_iiii.z).a0, vi (L5.getD 0 R_iiii.z).a1, vi (L5.getD 0 R_iiii.z).a2, vi (L5.getD 0 R_iiii.z).a3]] ((L5.getD 0 R_iiii.z).a0) ((L5.getD 0 R_iiii.z).a1) ((L5.getD 0 R_iiii.z).a2) ((L5.getD 0 R_iiii.z).a3)  y2_0 false  4), true), (sameR (roRow O2 (o4 + (0 * 4)) 4) [.i (L5.getD 0 R_iiii.z).a0, .i (L5.getD 0 R_iiii.z).a1, .i (L5.getD 0 R_iiii.z).a2, .i (L5.getD 0 R_iiii.z).a3], true), (Nat.blt 0 n6, true), ((0 : Int) == Int.ofNat 0, true), ((decide ((0 : Int) < (n6 : Int))), true)]) (fun gv => by kernel_rfl) (oD <| obs_cons (dP_of (instr_CheckC0 #[Value.agg #[vi (L5.getD 0 R_iiii.z).a0, vi (L5.getD 0 R_iiii.z).a1, vi (L5.getD 0 R_iiii.z).a2, vi (L5.getD 0 R_iiii.z).a3]] ((L5.getD 0 R_iiii.z).a0) ((L5.getD 0 R_iiii.z).a1) ((L5.getD 0 R_iiii.z).a2) ((L5.getD 0 R_iiii.z).a3)  y4_0 N c4  4 rfl (by decide) (by decide))) <| obs_cons (dP_of (instr_TargetC0 #[Value.agg #[vi (L5.getD 0 R_iiii.z).a0, vi (L5.getD 0 R_iiii.z).a1, vi (L5.getD 0 R_iiii.z).a2, vi (L5.getD 0 R_iiii.z).a3]] ((L5.getD 0 R_iiii.z).a0) ((L5.getD 0 R_iiii.z).a1) ((L5.getD 0 R_iiii.z).a2) ((L5.getD 0 R_iiii.z).a3)  y2_0 false N c2  4 rfl (by decide) (by decide))) <| obs_cons ((show (o4 + 0 * 4 + 0) = (o4 + (0 * 4)) from by omega) ▸ F2 0 (by omega) 0 4 (show 0 + 4 ≤ 4 from by decide)) <| oB <| oI <| oY obs_nil) rfl (by decide) (by rfl) rr ⟨⟨rfl, ⟨[], by rfl⟩, by rfl⟩, ⟨rfl, ⟨rfl, trivial⟩⟩⟩
      ·
       refine Mach.ok_bind (fun z6 c6 => ?_)
       cases z6 with
       | r0 y6_0 y6_1 =>
        exact Mach.ok_next (M := prog_LinkM o0 L1 n2 n3 o4 L5 n6 n7 O1 O2 N) (cd := 1000000) (cm := 0) (y := (.h3m3 (([(⟨(L5.getD 0 R_iiii.z).a0, y6_0, y6_1, (L5.getD 0 R_iiii.z).a3⟩ : R_iiii)] : List R_iiii)) (0) (v8) (1) : prog_LinkX)) (fu := 4000) (orc := (orcw [(0, true), (1, false)] [] [(0, 0)] [(0, [.i (L5.getD 0 R_iiii.z).a0, .i (L5.getD 0 R_iiii.z).a1, .i (L5.getD 0 R_iiii.z).a2, .i (L5.getD 0 R_iiii.z).a3])] [(1, (instr_TargetT0 ((L5.getD 0 R_iiii.z).a0) ((L5.getD 0 R_iiii.z).a1) ((L5.getD 0 R_iiii.z).a2) ((L5.getD 0 R_iiii.z).a3)  y2_0 false  4)), (2, (instr_CheckT0 ((L5.getD 0 R_iiii.z).a0) ((L5.getD 0 R_iiii.z).a1) ((L5.getD 0 R_iiii.z).a2) ((L5.getD 0 R_iiii.z).a3)  y4_0  4)), (3, (instr_AimT0 ((L5.getD 0 R_iiii.z).a0) ((L5.getD 0 R_iiii.z).a1) ((L5.getD 0 R_iiii.z).a2) ((L5.getD 0 R_iiii.z).a3) ((IntKind.i64.wrap ((0 : Int) + y2_0)))  y6_0 y6_1  4))])) (live := [0, 1, 2, 5]) (tv := fun _ => [some (vs 5 0 1 1), some (vs 2 o4 n6 n7), some (v0), some (vs 0 0 2 2), some (vi (2 : Int)), some (vi (v8 : Int)), some (vs 2 o4 n6 n7), some (vi (n6 : Int)), some (vi (1 : Int))]) (bl := [some (.cells [vs 1 o0 n2 n3, vs 2 o4 n6 n7] 22), some (.ro O1), some (.ro O2), some (.cells [vi (L5.getD 0 R_iiii.z).a0, vi y6_0, vi y6_1, vi (L5.getD 0 R_iiii.z).a3] 35)]) (ob := [(dP (instr_AimP0 #[Value.agg #[vi (L5.getD 0 R_iiii.z).a0, vi (L5.getD 0 R_iiii.z).a1, vi (L5.getD 0 R_iiii.z).a2, vi (L5.getD 0 R_iiii.z).a3], vi (IntKind.i64.wrap ((0 : Int) + y2_0))] ((L5.getD 0 R_iiii.z).a0) ((L5.getD 0 R_iiii.z).a1) ((L5.getD 0 R_iiii.z).a2) ((L5.getD 0 R_iiii.z).a3) ((IntKind.i64.wrap ((0 : Int) + y2_0)))  y6_0 y6_1  4), true), ((y4_0 != (0 : Int)), false), (dP (instr_CheckP0 #[Value.agg #[vi (L5.getD 0 R_iiii.z).a0, vi (L5.getD 0 R_iiii.z).a1, vi (L5.getD 0 R_iiii.z).a2, vi (L5.getD 0 R_iiii.z).a3]] ((L5.getD 0 R_iiii.z).a0) ((L5.getD 0 R_iiii.z).a1) ((L5.getD 0 R_iiii.z).a2) ((L5.getD 0 R_iiii.z).a3)  y4_0  4), true), (dP (instr_TargetP0 #[Value.agg #[vi (L5.getD 0 R_iiii.z).a0, vi (L5.getD 0 R_iiii.z).a1, vi (L5.getD 0 R_iiii.z).a2, vi (L5.getD 0 R_iiii.z).a3]] ((L5.getD 0 R_iiii.z).a0) ((L5.getD 0 R_iiii.z).a1) ((L5.getD 0 R_iiii.z).a2) ((L5.getD 0 R_iiii.z).a3)  y2_0 false  4), true), (sameR (roRow O2 (o4 + (0 * 4)) 4) [.i (L5.getD 0 R_iiii.z).a0, .i (L5.getD 0 R_iiii.z).a1, .i (L5.getD 0 R_iiii.z).a2, .i (L5.getD 0 R_iiii.z).a3], true), (Nat.blt 0 n6, true), ((0 : Int) == Int.ofNat 0, true), ((decide ((0 : Int) < (n6 : Int))), true)]) rfl (show 3 ∈ rids (prog_LinkK 3) from by decide +kernel) (fun gv => by kernel_rfl) (obs_cons (dP_of (instr_AimC0 #[Value.agg #[vi (L5.getD 0 R_iiii.z).a0, vi (L5.getD 0 R_iiii.z).a1, vi (L5.getD 0 R_iiii.z).a2, vi (L5.getD 0 R_iiii.z).a3], vi (IntKind.i64.wrap ((0 : Int) + y2_0))] ((L5.getD 0 R_iiii.z).a0) ((L5.getD 0 R_iiii.z).a1) ((L5.getD 0 R_iiii.z).a2) ((L5.getD 0 R_iiii.z).a3) ((IntKind.i64.wrap ((0 : Int) + y2_0)))  y6_0 y6_1 N c6  4 rfl (by decide) (by decide))) <| oE <| obs_cons (dP_of (instr_CheckC0 #[Value.agg #[vi (L5.getD 0 R_iiii.z).a0, vi (L5.getD 0 R_iiii.z).a1, vi (L5.getD 0 R_iiii.z).a2, vi (L5.getD 0 R_iiii.z).a3]] ((L5.getD 0 R_iiii.z).a0) ((L5.getD 0 R_iiii.z).a1) ((L5.getD 0 R_iiii.z).a2) ((L5.getD 0 R_iiii.z).a3)  y4_0 N c4  4 rfl (by decide) (by decide))) <| obs_cons (dP_of (instr_TargetC0 #[Value.agg #[vi (L5.getD 0 R_iiii.z).a0, vi (L5.getD 0 R_iiii.z).a1, vi (L5.getD 0 R_iiii.z).a2, vi (L5.getD 0 R_iiii.z).a3]] ((L5.getD 0 R_iiii.z).a0) ((L5.getD 0 R_iiii.z).a1) ((L5.getD 0 R_iiii.z).a2) ((L5.getD 0 R_iiii.z).a3)  y2_0 false N c2  4 rfl (by decide) (by decide))) <| obs_cons ((show (o4 + 0 * 4 + 0) = (o4 + (0 * 4)) from by omega) ▸ F2 0 (by omega) 0 4 (show 0 + 4 ≤ 4 from by decide)) <| oB <| oI <| oY obs_nil) rfl (by decide) (by rfl) (fun _ => ⟨⟨Eq.trans (show (vs 3 0 ([(⟨(L5.getD 0 R_iiii.z).a0, y6_0, y6_1, (L5.getD 0 R_iiii.z).a3⟩ : R_iiii)] : List R_iiii).length ([(⟨(L5.getD 0 R_iiii.z).a0, y6_0, y6_1, (L5.getD 0 R_iiii.z).a3⟩ : R_iiii)] : List R_iiii).length : Value) = vs 3 0 1 1 from (slice_eq rfl eqA eqA)) (by rfl), by rfl⟩, ⟨rr, ⟨⟨Eq.trans (show (vi ((0 : Nat) : Int) : Value) = v0 from (congrArg (Value.int .i64) (by first | rfl | omega))) (by rfl), by rfl⟩, ⟨rr, ⟨rr, ⟨rr, ⟨rr, ⟨rr, ⟨⟨Eq.trans (show (vi ((1 : Nat) : Int) : Value) = vi (1 : Int) from (congrArg (Value.int .i64) (by first | rfl | omega))) (by rfl), by rfl⟩, trivial⟩⟩⟩⟩⟩⟩⟩⟩⟩) ⟨⟨rfl, ⟨[], by rfl⟩, by rfl⟩, ⟨rfl, ⟨rfl, ⟨(same_cells (E := E_iiii) _ (L := ([(⟨(L5.getD 0 R_iiii.z).a0, y6_0, y6_1, (L5.getD 0 R_iiii.z).a3⟩ : R_iiii)] : List R_iiii)) _ (show ([vi (L5.getD 0 R_iiii.z).a0, vi y6_0, vi y6_1, vi (L5.getD 0 R_iiii.z).a3] : List Value) = rowV E_iiii ([(⟨(L5.getD 0 R_iiii.z).a0, y6_0, y6_1, (L5.getD 0 R_iiii.z).a3⟩ : R_iiii)] : List R_iiii) from rfl)), trivial⟩⟩⟩⟩
  ·
   exact Mach.ok_none
 ·
  refine Mach.ok_ite (fun g1 => ?_) (fun g1 => ?_)
  ·
   exact Mach.ok_next (M := prog_LinkM o0 L1 n2 n3 o4 L5 n6 n7 O1 O2 N) (cd := 1000000) (cm := 0) (y := (.h2m0 ((v8 + 1)) : prog_LinkX)) (fu := 4000) (orc := (orcw [(0, false)] [(0, (((v8 + 1) : Nat) : Int))] [] [] [])) (live := [0, 1, 2]) (tv := fun _ => [some (vn), some (vs 0 0 2 2), some (vi (2 : Int)), some (vi (((v8 + 1) : Nat) : Int))]) (bl := [some (.cells [vs 1 o0 n2 n3, vs 2 o4 n6 n7] 22), some (.ro O1), some (.ro O2)]) (ob := [((IntKind.i64.wrap ((v8 : Int) + (1 : Int))) == (((v8 + 1) : Nat) : Int), true), ((decide ((0 : Int) < (n6 : Int))), false)]) rfl (show 2 ∈ rids (prog_LinkK 3) from by decide +kernel) (fun gv => by kernel_rfl) (obs_cons (beq_iff_eq.2 ((wrap_i64 ltA).trans (by first | rfl | omega))) <| oN obs_nil) rfl (by decide) (by rfl) (fun _ => ⟨rr, ⟨rr, ⟨rr, ⟨rr, trivial⟩⟩⟩⟩) ⟨⟨rfl, ⟨[], by rfl⟩, by rfl⟩, ⟨rfl, ⟨rfl, trivial⟩⟩⟩
  ·
   exact Mach.ok_none

theorem prog_Link_ok3_3 (o0 : Nat) (L1 : List R_iiii) (n2 n3 o4 : Nat) (L5 : List R_iiii) (n6 n7 : Nat) (O1 : Obj) (F1 : RO_iiii O1 o0 L1) (O2 : Obj) (F2 : RO_iiii O2 o4 L5) (v4 : List R_iiii) (v7 v9 v13 N : Nat) : (prog_LinkM o0 L1 n2 n3 o4 L5 n6 n7 O1 O2 N).Ok Try.prog ext_Pp (.h3m3 v4 v7 v9 v13 : prog_LinkX) (prog_LinkStep L1 n2 n3 L5 n6 n7 N (.h3m3 v4 v7 v9 v13 : prog_LinkX)) := by
 show (prog_LinkM o0 L1 n2 n3 o4 L5 n6 n7 O1 O2 N).Ok Try.prog ext_Pp (.h3m3 v4 v7 v9 v13 : prog_LinkX) (prog_Link_h3m3 L1 n2 n3 L5 n6 n7 N v4 v7 v9 v13)
 unfold prog_Link_h3m3
 refine Mach.ok_ite (fun g0 => ?_) (fun g0 => ?_)
 ·
  refine Mach.ok_ite (fun g1 => ?_) (fun g1 => ?_)
  ·
   refine Mach.ok_bind (fun z2 c2 => ?_)
   cases z2 with
   | r0 y2_0 y2_1 =>
    refine Mach.ok_ite (fun g3 => ?_) (fun g3 => ?_)
    ·
     subst g3
     refine Mach.ok_bind (fun z4 c4 => ?_)
     cases z4 with
     | r0 y4_0 =>
      refine Mach.ok_ite (fun g5 => ?_) (fun g5 => ?_)
      ·
       exact Mach.ok_fin (M := prog_LinkM o0 L1 n2 n3 o4 L5 n6 n7 O1 O2 N) (cd := 1000000) (cm := 0) (r := (.r0 ((110 : Int)) : prog_LinkR)) (fu := 4000) (orc := (orcw [(0, true), (1, true)] [] [(0, v13)] [(0, [.i (L5.getD v13 R_iiii.z).a0, .i (L5.getD v13 R_iiii.z).a1, .i (L5.getD v13 R_iiii.z).a2, .i (L5.getD v13 R_iiii.z).a3])] [(1, (instr_TargetT0 ((L5.getD v13 R_iiii.z).a0) ((L5.getD v13 R_iiii.z).a1) ((L5.getD v13 R_iiii.z).a2) ((L5.getD v13 R_iiii.z).a3)  y2_0 true  5)), (2, (instr_CheckT0 ((L5.getD v13 R_iiii.z).a0) ((L5.getD v13 R_iiii.z).a1) ((L5.getD v13 R_iiii.z).a2) ((L5.getD v13 R_iiii.z).a3)  y4_0  5))])) (live := [0, 1, 2]) (u := Value.tuple #[vn, vi (110 : Int)]) (bl := [some (.cells [vs 1 o0 n2 n3, vs 2 o4 n6 n7] 22), some (.ro O1), some (.ro O2)]) (ob := [((y4_0 != (0 : Int)), true), (dP (instr_CheckP0 #[Value.agg #[vi (L5.getD v13 R_iiii.z).a0, vi (L5.getD v13 R_iiii.z).a1, vi (L5.getD v13 R_iiii.z).a2, vi (L5.getD v13 R_iiii.z).a3]] ((L5.getD v13 R_iiii.z).a0) ((L5.getD v13 R_iiii.z).a1) ((L5.getD v13 R_iiii.z).a2) ((L5.getD v13 R_iiii.z).a3)  y4_0  5), true), (dP (instr_TargetP0 #[Value.agg #[vi (L5.getD v13 R_iiii.z).a0, vi (L5.getD v13 R_iiii.z).a1, vi (L5.getD v13 R_iiii.z).a2, vi (L5.getD v13 R_iiii.z).a3]] ((L5.getD v13 R_iiii.z).a0) ((L5.getD v13 R_iiii.z).a1) ((L5.getD v13 R_iiii.z).a2) ((L5.getD v13 R_iiii.z).a3)  y2_0 true  5), true), (sameR (roRow O2 (o4 + (v13 * 4)) 4) [.i (L5.getD v13 R_iiii.z).a0, .i (L5.getD v13 R_iiii.z).a1, .i (L5.getD v13 R_iiii.z).a2, .i (L5.getD v13 R_iiii.z).a3], true), (Nat.blt v13 n6, true), ((v13 : Int) == Int.ofNat v13, true), ((decide ((v13 : Int) < (n6 : Int))), true)]) (fun gv => by kernel_rfl) (oD <| obs_cons (dP_of (instr_CheckC0 #[Value.agg #[vi (L5.getD v13 R_iiii.z).a0, vi (L5.getD v13 R_iiii.z).a1, vi (L5.getD v13 R_iiii.z).a2, vi (L5.getD v13 R_iiii.z).a3]] ((L5.getD v13 R_iiii.z).a0) ((L5.getD v13 R_iiii.z).a1) ((L5.getD v13 R_iiii.z).a2) ((L5.getD v13 R_iiii.z).a3)  y4_0 N c4  5 rfl (by decide) (by decide))) <| obs_cons (dP_of (instr_TargetC0 #[Value.agg #[vi (L5.getD v13 R_iiii.z).a0, vi (L5.getD v13 R_iiii.z).a1, vi (L5.getD v13 R_iiii.z).a2, vi (L5.getD v13 R_iiii.z).a3]] ((L5.getD v13 R_iiii.z).a0) ((L5.getD v13 R_iiii.z).a1) ((L5.getD v13 R_iiii.z).a2) ((L5.getD v13 R_iiii.z).a3)  y2_0 true N c2  5 rfl (by decide) (by decide))) <| obs_cons ((show (o4 + v13 * 4 + 0) = (o4 + (v13 * 4)) from by omega) ▸ F2 v13 (by omega) 0 4 (show 0 + 4 ≤ 4 from by decide)) <| oB <| oI <| oY obs_nil) rfl (by decide) (by rfl) rr ⟨⟨rfl, ⟨[], by rfl⟩, by rfl⟩, ⟨rfl, ⟨rfl, trivial⟩⟩⟩
      ·
       refine Mach.ok_ite (fun g6 => ?_) (fun g6 => ?_)
       ·
        exact Mach.ok_fin (M := prog_LinkM o0 L1 n2 n3 o4 L5 n6 n7 O1 O2 N) (cd := 1000000) (cm := 0) (r := (.r0 ((110 : Int)) : prog_LinkR)) (fu := 4000) (orc := (orcw [(0, true), (1, false), (2, true)] [] [(0, v13)] [(0, [.i (L5.getD v13 R_iiii.z).a0, .i (L5.getD v13 R_iiii.z).a1, .i (L5.getD v13 R_iiii.z).a2, .i (L5.getD v13 R_iiii.z).a3])] [(1, (instr_TargetT0 ((L5.getD v13 R_iiii.z).a0) ((L5.getD v13 R_iiii.z).a1) ((L5.getD v13 R_iiii.z).a2) ((L5.getD v13 R_iiii.z).a3)  y2_0 true  5)), (2, (instr_CheckT0 ((L5.getD v13 R_iiii.z).a0) ((L5.getD v13 R_iiii.z).a1) ((L5.getD v13 R_iiii.z).a2) ((L5.getD v13 R_iiii.z).a3)  y4_0  5))])) (live := [0, 1, 2]) (u := Value.tuple #[vn, vi (110 : Int)]) (bl := [some (.cells [vs 1 o0 n2 n3, vs 2 o4 n6 n7] 22), some (.ro O1), some (.ro O2)]) (ob := [((decide (y2_0 > (n6 : Int))), true), ((y4_0 != (0 : Int)), false), (dP (instr_CheckP0 #[Value.agg #[vi (L5.getD v13 R_iiii.z).a0, vi (L5.getD v13 R_iiii.z).a1, vi (L5.getD v13 R_iiii.z).a2, vi (L5.getD v13 R_iiii.z).a3]] ((L5.getD v13 R_iiii.z).a0) ((L5.getD v13 R_iiii.z).a1) ((L5.getD v13 R_iiii.z).a2) ((L5.getD v13 R_iiii.z).a3)  y4_0  5), true), (dP (instr_TargetP0 #[Value.agg #[vi (L5.getD v13 R_iiii.z).a0, vi (L5.getD v13 R_iiii.z).a1, vi (L5.getD v13 R_iiii.z).a2, vi (L5.getD v13 R_iiii.z).a3]] ((L5.getD v13 R_iiii.z).a0) ((L5.getD v13 R_iiii.z).a1) ((L5.getD v13 R_iiii.z).a2) ((L5.getD v13 R_iiii.z).a3)  y2_0 true  5), true), (sameR (roRow O2 (o4 + (v13 * 4)) 4) [.i (L5.getD v13 R_iiii.z).a0, .i (L5.getD v13 R_iiii.z).a1, .i (L5.getD v13 R_iiii.z).a2, .i (L5.getD v13 R_iiii.z).a3], true), (Nat.blt v13 n6, true), ((v13 : Int) == Int.ofNat v13, true), ((decide ((v13 : Int) < (n6 : Int))), true)]) (fun gv => by kernel_rfl) (oY <| oE <| obs_cons (dP_of (instr_CheckC0 #[Value.agg #[vi (L5.getD v13 R_iiii.z).a0, vi (L5.getD v13 R_iiii.z).a1, vi (L5.getD v13 R_iiii.z).a2, vi (L5.getD v13 R_iiii.z).a3]] ((L5.getD v13 R_iiii.z).a0) ((L5.getD v13 R_iiii.z).a1) ((L5.getD v13 R_iiii.z).a2) ((L5.getD v13 R_iiii.z).a3)  y4_0 N c4  5 rfl (by decide) (by decide))) <| obs_cons (dP_of (instr_TargetC0 #[Value.agg #[vi (L5.getD v13 R_iiii.z).a0, vi (L5.getD v13 R_iiii.z).a1, vi (L5.getD v13 R_iiii.z).a2, vi (L5.getD v13 R_iiii.z).a3]] ((L5.getD v13 R_iiii.z).a0) ((L5.getD v13 R_iiii.z).a1) ((L5.getD v13 R_iiii.z).a2) ((L5.getD v13 R_iiii.z).a3)  y2_0 true N c2  5 rfl (by decide) (by decide))) <| obs_cons ((show (o4 + v13 * 4 + 0) = (o4 + (v13 * 4)) from by omega) ▸ F2 v13 (by omega) 0 4 (show 0 + 4 ≤ 4 from by decide)) <| oB <| oI <| oY obs_nil) rfl (by decide) (by rfl) rr ⟨⟨rfl, ⟨[], by rfl⟩, by rfl⟩, ⟨rfl, ⟨rfl, trivial⟩⟩⟩
       ·
        refine Mach.ok_bind (fun z7 c7 => ?_)
        cases z7 with
        | r0 y7_0 y7_1 =>
         refine Mach.ok_ite (fun g8 => ?_) (fun g8 => ?_)
         ·
          refine Mach.ok_ite (fun g9 => ?_) (fun g9 => ?_)
          ·
           exact Mach.ok_next (M := prog_LinkM o0 L1 n2 n3 o4 L5 n6 n7 O1 O2 N) (cd := 1000000) (cm := 0) (y := (.h3m3 ((v4 ++ ([(⟨(L5.getD v13 R_iiii.z).a0, y7_0, y7_1, (L5.getD v13 R_iiii.z).a3⟩ : R_iiii)] : List R_iiii))) (v7) (v9) ((v13 + 1)) : prog_LinkX)) (fu := 4000) (orc := (orcw [(0, true), (1, false), (2, false)] [(1, (((v13 + 1) : Nat) : Int))] [(0, v13)] [(0, [.i (L5.getD v13 R_iiii.z).a0, .i (L5.getD v13 R_iiii.z).a1, .i (L5.getD v13 R_iiii.z).a2, .i (L5.getD v13 R_iiii.z).a3])] [(1, (instr_TargetT0 ((L5.getD v13 R_iiii.z).a0) ((L5.getD v13 R_iiii.z).a1) ((L5.getD v13 R_iiii.z).a2) ((L5.getD v13 R_iiii.z).a3)  y2_0 true  5)), (2, (instr_CheckT0 ((L5.getD v13 R_iiii.z).a0) ((L5.getD v13 R_iiii.z).a1) ((L5.getD v13 R_iiii.z).a2) ((L5.getD v13 R_iiii.z).a3)  y4_0  5)), (3, (instr_AimT0 ((L5.getD v13 R_iiii.z).a0) ((L5.getD v13 R_iiii.z).a1) ((L5.getD v13 R_iiii.z).a2) ((L5.getD v13 R_iiii.z).a3) ((IntKind.i64.wrap ((v7 : Int) + y2_0)))  y7_0 y7_1  5)), (4, .ap 1 [vi (L5.getD v13 R_iiii.z).a0, vi y7_0, vi y7_1, vi (L5.getD v13 R_iiii.z).a3] (rowV E_iiii (v4 ++ ([(⟨(L5.getD v13 R_iiii.z).a0, y7_0, y7_1, (L5.getD v13 R_iiii.z).a3⟩ : R_iiii)] : List R_iiii))))])) (live := [0, 1, 2, 6]) (tv := fun _ => [some (vs 6 0 (v4.length + 1) (v4.length + 1)), some (vs 2 o4 n6 n7), some (vi (v7 : Int)), some (vs 0 0 2 2), some (vi (2 : Int)), some (vi (v9 : Int)), some (vs 2 o4 n6 n7), some (vi (n6 : Int)), some (vi (((v13 + 1) : Nat) : Int))]) (bl := [some (.cells [vs 1 o0 n2 n3, vs 2 o4 n6 n7] 22), some (.ro O1), some (.ro O2), some (.cells (rowV E_iiii (v4 ++ ([(⟨(L5.getD v13 R_iiii.z).a0, y7_0, y7_1, (L5.getD v13 R_iiii.z).a3⟩ : R_iiii)] : List R_iiii))) 35)]) (ob := [((IntKind.i64.wrap ((v13 : Int) + (1 : Int))) == (((v13 + 1) : Nat) : Int), true), (dP ((1 = 1 ∧ takeN (1 * 4) (List.drop 0 [vi (L5.getD v13 R_iiii.z).a0, vi y7_0, vi y7_1, vi (L5.getD v13 R_iiii.z).a3]) = some [vi (L5.getD v13 R_iiii.z).a0, vi y7_0, vi y7_1, vi (L5.getD v13 R_iiii.z).a3] ∧ allB cell1 [vi (L5.getD v13 R_iiii.z).a0, vi y7_0, vi y7_1, vi (L5.getD v13 R_iiii.z).a3] = true) ∧ 0 < 1 ∧ 1 ≤ 100000 ∧ v4.length < v4.length + 1 ∧ v4.length ≤ 100000 ∧ v4.length * 4 ≤ (List.length (rowV E_iiii v4)) ∧ List.take (v4.length * 4) (rowV E_iiii v4) ++ [vi (L5.getD v13 R_iiii.z).a0, vi y7_0, vi y7_1, vi (L5.getD v13 R_iiii.z).a3] = (rowV E_iiii (v4 ++ ([(⟨(L5.getD v13 R_iiii.z).a0, y7_0, y7_1, (L5.getD v13 R_iiii.z).a3⟩ : R_iiii)] : List R_iiii)))), true), (dP (instr_AimP0 #[Value.agg #[vi (L5.getD v13 R_iiii.z).a0, vi (L5.getD v13 R_iiii.z).a1, vi (L5.getD v13 R_iiii.z).a2, vi (L5.getD v13 R_iiii.z).a3], vi (IntKind.i64.wrap ((v7 : Int) + y2_0))] ((L5.getD v13 R_iiii.z).a0) ((L5.getD v13 R_iiii.z).a1) ((L5.getD v13 R_iiii.z).a2) ((L5.getD v13 R_iiii.z).a3) ((IntKind.i64.wrap ((v7 : Int) + y2_0)))  y7_0 y7_1  5), true), ((decide (y2_0 > (n6 : Int))), false), ((y4_0 != (0 : Int)), false), (dP (instr_CheckP0 #[Value.agg #[vi (L5.getD v13 R_iiii.z).a0, vi (L5.getD v13 R_iiii.z).a1, vi (L5.getD v13 R_iiii.z).a2, vi (L5.getD v13 R_iiii.z).a3]] ((L5.getD v13 R_iiii.z).a0) ((L5.getD v13 R_iiii.z).a1) ((L5.getD v13 R_iiii.z).a2) ((L5.getD v13 R_iiii.z).a3)  y4_0  5), true), (dP (instr_TargetP0 #[Value.agg #[vi (L5.getD v13 R_iiii.z).a0, vi (L5.getD v13 R_iiii.z).a1, vi (L5.getD v13 R_iiii.z).a2, vi (L5.getD v13 R_iiii.z).a3]] ((L5.getD v13 R_iiii.z).a0) ((L5.getD v13 R_iiii.z).a1) ((L5.getD v13 R_iiii.z).a2) ((L5.getD v13 R_iiii.z).a3)  y2_0 true  5), true), (sameR (roRow O2 (o4 + (v13 * 4)) 4) [.i (L5.getD v13 R_iiii.z).a0, .i (L5.getD v13 R_iiii.z).a1, .i (L5.getD v13 R_iiii.z).a2, .i (L5.getD v13 R_iiii.z).a3], true), (Nat.blt v13 n6, true), ((v13 : Int) == Int.ofNat v13, true), ((decide ((v13 : Int) < (n6 : Int))), true)]) rfl (show 3 ∈ rids (prog_LinkK 3) from by decide +kernel) (fun gv => by kernel_rfl) (obs_cons (beq_iff_eq.2 ((wrap_i64 ltA).trans (by first | rfl | omega))) <| obs_cons (dP_of ⟨⟨rfl, ⟨rfl, rfl⟩⟩, by omega, by omega, ltA, by omega, (rowV_dst (E := E_iiii) (L := v4) (M := ([(⟨(L5.getD v13 R_iiii.z).a0, y7_0, y7_1, (L5.getD v13 R_iiii.z).a3⟩ : R_iiii)] : List R_iiii)) (n := v4.length) (show _ = _ * 4 from rfl) (by omega) (R := (v4 ++ ([(⟨(L5.getD v13 R_iiii.z).a0, y7_0, y7_1, (L5.getD v13 R_iiii.z).a3⟩ : R_iiii)] : List R_iiii))) (by rw [List.take_of_length_le (by omega)]))⟩) <| obs_cons (dP_of (instr_AimC0 #[Value.agg #[vi (L5.getD v13 R_iiii.z).a0, vi (L5.getD v13 R_iiii.z).a1, vi (L5.getD v13 R_iiii.z).a2, vi (L5.getD v13 R_iiii.z).a3], vi (IntKind.i64.wrap ((v7 : Int) + y2_0))] ((L5.getD v13 R_iiii.z).a0) ((L5.getD v13 R_iiii.z).a1) ((L5.getD v13 R_iiii.z).a2) ((L5.getD v13 R_iiii.z).a3) ((IntKind.i64.wrap ((v7 : Int) + y2_0)))  y7_0 y7_1 N c7  5 rfl (by decide) (by decide))) <| oN <| oE <| obs_cons (dP_of (instr_CheckC0 #[Value.agg #[vi (L5.getD v13 R_iiii.z).a0, vi (L5.getD v13 R_iiii.z).a1, vi (L5.getD v13 R_iiii.z).a2, vi (L5.getD v13 R_iiii.z).a3]] ((L5.getD v13 R_iiii.z).a0) ((L5.getD v13 R_iiii.z).a1) ((L5.getD v13 R_iiii.z).a2) ((L5.getD v13 R_iiii.z).a3)  y4_0 N c4  5 rfl (by decide) (by decide))) <| obs_cons (dP_of (instr_TargetC0 #[Value.agg #[vi (L5.getD v13 R_iiii.z).a0, vi (L5.getD v13 R_iiii.z).a1, vi (L5.getD v13 R_iiii.z).a2, vi (L5.getD v13 R_iiii.z).a3]] ((L5.getD v13 R_iiii.z).a0) ((L5.getD v13 R_iiii.z).a1) ((L5.getD v13 R_iiii.z).a2) ((L5.getD v13 R_iiii.z).a3)  y2_0 true N c2  5 rfl (by decide) (by decide))) <| obs_cons ((show (o4 + v13 * 4 + 0) = (o4 + (v13 * 4)) from by omega) ▸ F2 v13 (by omega) 0 4 (show 0 + 4 ≤ 4 from by decide)) <| oB <| oI <| oY obs_nil) rfl (by decide) (by rfl) (fun _ => ⟨⟨Eq.trans (show (vs 3 0 (v4 ++ ([(⟨(L5.getD v13 R_iiii.z).a0, y7_0, y7_1, (L5.getD v13 R_iiii.z).a3⟩ : R_iiii)] : List R_iiii)).length (v4 ++ ([(⟨(L5.getD v13 R_iiii.z).a0, y7_0, y7_1, (L5.getD v13 R_iiii.z).a3⟩ : R_iiii)] : List R_iiii)).length : Value) = vs 3 0 (v4.length + 1) (v4.length + 1) from (slice_eq rfl eqA eqA)) (by rfl), by rfl⟩, ⟨rr, ⟨rr, ⟨rr, ⟨rr, ⟨rr, ⟨rr, ⟨rr, ⟨rr, trivial⟩⟩⟩⟩⟩⟩⟩⟩⟩) ⟨⟨rfl, ⟨[], by rfl⟩, by rfl⟩, ⟨rfl, ⟨rfl, ⟨(same_row (E := E_iiii) (α := R_iiii) _ (v4 ++ ([(⟨(L5.getD v13 R_iiii.z).a0, y7_0, y7_1, (L5.getD v13 R_iiii.z).a3⟩ : R_iiii)] : List R_iiii)) _), trivial⟩⟩⟩⟩
          ·
           exact Mach.ok_none
         ·
          exact Mach.ok_none
    ·
     obtain rfl : y2_1 = false := by simpa using g3
     refine Mach.ok_bind (fun z4 c4 => ?_)
     cases z4 with
     | r0 y4_0 =>
      refine Mach.ok_ite (fun g5 => ?_) (fun g5 => ?_)
      ·
       exact Mach.ok_fin (M := prog_LinkM o0 L1 n2 n3 o4 L5 n6 n7 O1 O2 N) (cd := 1000000) (cm := 0) (r := (.r0 ((110 : Int)) : prog_LinkR)) (fu := 4000) (orc := (orcw [(0, true), (1, true)] [] [(0, v13)] [(0, [.i (L5.getD v13 R_iiii.z).a0, .i (L5.getD v13 R_iiii.z).a1, .i (L5.getD v13 R_iiii.z).a2, .i (L5.getD v13 R_iiii.z).a3])] [(1, (instr_TargetT0 ((L5.getD v13 R_iiii.z).a0) ((L5.getD v13 R_iiii.z).a1) ((L5.getD v13 R_iiii.z).a2) ((L5.getD v13 R_iiii.z).a3)  y2_0 false  5)), (2, (instr_CheckT0 ((L5.getD v13 R_iiii.z).a0) ((L5.getD v13 R_iiii.z).a1) ((L5.getD v13 R_iiii.z).a2) ((L5.getD v13 R_iiii.z).a3)  y4_0  5))])) (live := [0, 1, 2]) (u := Value.tuple #[vn, vi (110 : Int)]) (bl := [some (.cells [vs 1 o0 n2 n3, vs 2 o4 n6 n7] 22), some (.ro O1), some (.ro O2)]) (ob := [((y4_0 != (0 : Int)), true), (dP (instr_CheckP0 #[Value.agg #[vi (L5.getD v13 R_iiii.z).a0, vi (L5.getD v13 R_iiii.z).a1, vi (L5.getD v13 R_iiii.z).a2, vi (L5.getD v13 R_iiii.z).a3]] ((L5.getD v13 R_iiii.z).a0) ((L5.getD v13 R_iiii.z).a1) ((L5.getD v13 R_iiii.z).a2) ((L5.getD v13 R_iiii.z).a3)  y4_0  5), true), (dP (instr_TargetP0 #[Value.agg #[vi (L5.getD v13 R_iiii.z).a0, vi (L5.getD v13 R_iiii.z).a1, vi (L5.getD v13 R_iiii.z).a2, vi (L5.getD v13 R_iiii.z).a3]] ((L5.getD v13 R_iiii.z).a0) ((L5.getD v13 R_iiii.z).a1) ((L5.getD v13 R_iiii.z).a2) ((L5.getD v13 R_iiii.z).a3)  y2_0 false  5), true), (sameR (roRow O2 (o4 + (v13 * 4)) 4) [.i (L5.getD v13 R_iiii.z).a0, .i (L5.getD v13 R_iiii.z).a1, .i (L5.getD v13 R_iiii.z).a2, .i (L5.getD v13 R_iiii.z).a3], true), (Nat.blt v13 n6, true), ((v13 : Int) == Int.ofNat v13, true), ((decide ((v13 : Int) < (n6 : Int))), true)]) (fun gv => by kernel_rfl) (oD <| obs_cons (dP_of (instr_CheckC0 #[Value.agg #[vi (L5.getD v13 R_iiii.z).a0, vi (L5.getD v13 R_iiii.z).a1, vi (L5.getD v13 R_iiii.z).a2, vi (L5.getD v13 R_iiii.z).a3]] ((L5.getD v13 R_iiii.z).a0) ((L5.getD v13 R_iiii.z).a1) ((L5.getD v13 R_iiii.z).a2) ((L5.getD v13 R_iiii.z).a3)  y4_0 N c4  5 rfl (by decide) (by decide))) <| obs_cons (dP_of (instr_TargetC0 #[Value.agg #[vi (L5.getD v13 R_iiii.z).a0, vi (L5.getD v13 R_iiii.z).a1, vi (L5.getD v13 R_iiii.z).a2, vi (L5.getD v13 R_iiii.z).a3]] ((L5.getD v13 R_iiii.z).a0) ((L5.getD v13 R_iiii.z).a1) ((L5.getD v13 R_iiii.z).a2) ((L5.getD v13 R_iiii.z).a3)  y2_0 false N c2  5 rfl (by decide) (by decide))) <| obs_cons ((show (o4 + v13 * 4 + 0) = (o4 + (v13 * 4)) from by omega) ▸ F2 v13 (by omega) 0 4 (show 0 + 4 ≤ 4 from by decide)) <| oB <| oI <| oY obs_nil) rfl (by decide) (by rfl) rr ⟨⟨rfl, ⟨[], by rfl⟩, by rfl⟩, ⟨rfl, ⟨rfl, trivial⟩⟩⟩
      ·
       refine Mach.ok_bind (fun z6 c6 => ?_)
       cases z6 with
       | r0 y6_0 y6_1 =>
        refine Mach.ok_ite (fun g7 => ?_) (fun g7 => ?_)
        ·
         refine Mach.ok_ite (fun g8 => ?_) (fun g8 => ?_)
         ·
          exact Mach.ok_next (M := prog_LinkM o0 L1 n2 n3 o4 L5 n6 n7 O1 O2 N) (cd := 1000000) (cm := 0) (y := (.h3m3 ((v4 ++ ([(⟨(L5.getD v13 R_iiii.z).a0, y6_0, y6_1, (L5.getD v13 R_iiii.z).a3⟩ : R_iiii)] : List R_iiii))) (v7) (v9) ((v13 + 1)) : prog_LinkX)) (fu := 4000) (orc := (orcw [(0, true), (1, false)] [(1, (((v13 + 1) : Nat) : Int))] [(0, v13)] [(0, [.i (L5.getD v13 R_iiii.z).a0, .i (L5.getD v13 R_iiii.z).a1, .i (L5.getD v13 R_iiii.z).a2, .i (L5.getD v13 R_iiii.z).a3])] [(1, (instr_TargetT0 ((L5.getD v13 R_iiii.z).a0) ((L5.getD v13 R_iiii.z).a1) ((L5.getD v13 R_iiii.z).a2) ((L5.getD v13 R_iiii.z).a3)  y2_0 false  5)), (2, (instr_CheckT0 ((L5.getD v13 R_iiii.z).a0) ((L5.getD v13 R_iiii.z).a1) ((L5.getD v13 R_iiii.z).a2) ((L5.getD v13 R_iiii.z).a3)  y4_0  5)), (3, (instr_AimT0 ((L5.getD v13 R_iiii.z).a0) ((L5.getD v13 R_iiii.z).a1) ((L5.getD v13 R_iiii.z).a2) ((L5.getD v13 R_iiii.z).a3) ((IntKind.i64.wrap ((v7 : Int) + y2_0)))  y6_0 y6_1  5)), (4, .ap 1 [vi (L5.getD v13 R_iiii.z).a0, vi y6_0, vi y6_1, vi (L5.getD v13 R_iiii.z).a3] (rowV E_iiii (v4 ++ ([(⟨(L5.getD v13 R_iiii.z).a0, y6_0, y6_1, (L5.getD v13 R_iiii.z).a3⟩ : R_iiii)] : List R_iiii))))])) (live := [0, 1, 2, 6]) (tv := fun _ => [some (vs 6 0 (v4.length + 1) (v4.length + 1)), some (vs 2 o4 n6 n7), some (vi (v7 : Int)), some (vs 0 0 2 2), some (vi (2 : Int)), some (vi (v9 : Int)), some (vs 2 o4 n6 n7), some (vi (n6 : Int)), some (vi (((v13 + 1) : Nat) : Int))]) (bl := [some (.cells [vs 1 o0 n2 n3, vs 2 o4 n6 n7] 22), some (.ro O1), some (.ro O2), some (.cells (rowV E_iiii (v4 ++ ([(⟨(L5.getD v13 R_iiii.z).a0, y6_0, y6_1, (L5.getD v13 R_iiii.z).a3⟩ : R_iiii)] : List R_iiii))) 35)]) (ob := [((IntKind.i64.wrap ((v13 : Int) + (1 : Int))) == (((v13 + 1) : Nat) : Int), true), (dP ((1 = 1 ∧ takeN (1 * 4) (List.drop 0 [vi (L5.getD v13 R_iiii.z).a0, vi y6_0, vi y6_1, vi (L5.getD v13 R_iiii.z).a3]) = some [vi (L5.getD v13 R_iiii.z).a0, vi y6_0, vi y6_1, vi (L5.getD v13 R_iiii.z).a3] ∧ allB cell1 [vi (L5.getD v13 R_iiii.z).a0, vi y6_0, vi y6_1, vi (L5.getD v13 R_iiii.z).a3] = true) ∧ 0 < 1 ∧ 1 ≤ 100000 ∧ v4.length < v4.length + 1 ∧ v4.length ≤ 100000 ∧ v4.length * 4 ≤ (List.length (rowV E_iiii v4)) ∧ List.take (v4.length * 4) (rowV E_iiii v4) ++ [vi (L5.getD v13 R_iiii.z).a0, vi y6_0, vi y6_1, vi (L5.getD v13 R_iiii.z).a3] = (rowV E_iiii (v4 ++ ([(⟨(L5.getD v13 R_iiii.z).a0, y6_0, y6_1, (L5.getD v13 R_iiii.z).a3⟩ : R_iiii)] : List R_iiii)))), true), (dP (instr_AimP0 #[Value.agg #[vi (L5.getD v13 R_iiii.z).a0, vi (L5.getD v13 R_iiii.z).a1, vi (L5.getD v13 R_iiii.z).a2, vi (L5.getD v13 R_iiii.z).a3], vi (IntKind.i64.wrap ((v7 : Int) + y2_0))] ((L5.getD v13 R_iiii.z).a0) ((L5.getD v13 R_iiii.z).a1) ((L5.getD v13 R_iiii.z).a2) ((L5.getD v13 R_iiii.z).a3) ((IntKind.i64.wrap ((v7 : Int) + y2_0)))  y6_0 y6_1  5), true), ((y4_0 != (0 : Int)), false), (dP (instr_CheckP0 #[Value.agg #[vi (L5.getD v13 R_iiii.z).a0, vi (L5.getD v13 R_iiii.z).a1, vi (L5.getD v13 R_iiii.z).a2, vi (L5.getD v13 R_iiii.z).a3]] ((L5.getD v13 R_iiii.z).a0) ((L5.getD v13 R_iiii.z).a1) ((L5.getD v13 R_iiii.z).a2) ((L5.getD v13 R_iiii.z).a3)  y4_0  5), true), (dP (instr_TargetP0 #[Value.agg #[vi (L5.getD v13 R_iiii.z).a0, vi (L5.getD v13 R_iiii.z).a1, vi (L5.getD v13 R_iiii.z).a2, vi (L5.getD v13 R_iiii.z).a3]] ((L5.getD v13 R_iiii.z).a0) ((L5.getD v13 R_iiii.z).a1) ((L5.getD v13 R_iiii.z).a2) ((L5.getD v13 R_iiii.z).a3)  y2_0 false  5), true), (sameR (roRow O2 (o4 + (v13 * 4)) 4) [.i (L5.getD v13 R_iiii.z).a0, .i (L5.getD v13 R_iiii.z).a1, .i (L5.getD v13 R_iiii.z).a2, .i (L5.getD v13 R_iiii.z).a3], true), (Nat.blt v13 n6, true), ((v13 : Int) == Int.ofNat v13, true), ((decide ((v13 : Int) < (n6 : Int))), true)]) rfl (show 3 ∈ rids (prog_LinkK 3) from by decide +kernel) (fun gv => by kernel_rfl) (obs_cons (beq_iff_eq.2 ((wrap_i64 ltA).trans (by first | rfl | omega))) <| obs_cons (dP_of ⟨⟨rfl, ⟨rfl, rfl⟩⟩, by omega, by omega, ltA, by omega, (rowV_dst (E := E_iiii) (L := v4) (M := ([(⟨(L5.getD v13 R_iiii.z).a0, y6_0, y6_1, (L5.getD v13 R_iiii.z).a3⟩ : R_iiii)] : List R_iiii)) (n := v4.length) (show _ = _ * 4 from rfl) (by omega) (R := (v4 ++ ([(⟨(L5.getD v13 R_iiii.z).a0, y6_0, y6_1, (L5.getD v13 R_iiii.z).a3⟩ : R_iiii)] : List R_iiii))) (by rw [List.take_of_length_le (by omega)]))⟩) <| obs_cons (dP_of (instr_AimC0 #[Value.agg #[vi (L5.getD v13 R_iiii.z).a0, vi (L5.getD v13 R_iiii.z).a1, vi (L5.getD v13 R_iiii.z).a2, vi (L5.getD v13 R_iiii.z).a3], vi (IntKind.i64.wrap ((v7 : Int) + y2_0))] ((L5.getD v13 R_iiii.z).a0) ((L5.getD v13 R_iiii.z).a1) ((L5.getD v13 R_iiii.z).a2) ((L5.getD v13 R_iiii.z).a3) ((IntKind.i64.wrap ((v7 : Int) + y2_0)))  y6_0 y6_1 N c6  5 rfl (by decide) (by decide))) <| oE <| obs_cons (dP_of (instr_CheckC0 #[Value.agg #[vi (L5.getD v13 R_iiii.z).a0, vi (L5.getD v13 R_iiii.z).a1, vi (L5.getD v13 R_iiii.z).a2, vi (L5.getD v13 R_iiii.z).a3]] ((L5.getD v13 R_iiii.z).a0) ((L5.getD v13 R_iiii.z).a1) ((L5.getD v13 R_iiii.z).a2) ((L5.getD v13 R_iiii.z).a3)  y4_0 N c4  5 rfl (by decide) (by decide))) <| obs_cons (dP_of (instr_TargetC0 #[Value.agg #[vi (L5.getD v13 R_iiii.z).a0, vi (L5.getD v13 R_iiii.z).a1, vi (L5.getD v13 R_iiii.z).a2, vi (L5.getD v13 R_iiii.z).a3]] ((L5.getD v13 R_iiii.z).a0) ((L5.getD v13 R_iiii.z).a1) ((L5.getD v13 R_iiii.z).a2) ((L5.getD v13 R_iiii.z).a3)  y2_0 false N c2  5 rfl (by decide) (by decide))) <| obs_cons ((show (o4 + v13 * 4 + 0) = (o4 + (v13 * 4)) from by omega) ▸ F2 v13 (by omega) 0 4 (show 0 + 4 ≤ 4 from by decide)) <| oB <| oI <| oY obs_nil) rfl (by decide) (by rfl) (fun _ => ⟨⟨Eq.trans (show (vs 3 0 (v4 ++ ([(⟨(L5.getD v13 R_iiii.z).a0, y6_0, y6_1, (L5.getD v13 R_iiii.z).a3⟩ : R_iiii)] : List R_iiii)).length (v4 ++ ([(⟨(L5.getD v13 R_iiii.z).a0, y6_0, y6_1, (L5.getD v13 R_iiii.z).a3⟩ : R_iiii)] : List R_iiii)).length : Value) = vs 3 0 (v4.length + 1) (v4.length + 1) from (slice_eq rfl eqA eqA)) (by rfl), by rfl⟩, ⟨rr, ⟨rr, ⟨rr, ⟨rr, ⟨rr, ⟨rr, ⟨rr, ⟨rr, trivial⟩⟩⟩⟩⟩⟩⟩⟩⟩) ⟨⟨rfl, ⟨[], by rfl⟩, by rfl⟩, ⟨rfl, ⟨rfl, ⟨(same_row (E := E_iiii) (α := R_iiii) _ (v4 ++ ([(⟨(L5.getD v13 R_iiii.z).a0, y6_0, y6_1, (L5.getD v13 R_iiii.z).a3⟩ : R_iiii)] : List R_iiii)) _), trivial⟩⟩⟩⟩
         ·
          exact Mach.ok_none
        ·
         exact Mach.ok_none
  ·
   exact Mach.ok_none
 ·
  refine Mach.ok_ite (fun g1 => ?_) (fun g1 => ?_)
  ·
   exact Mach.ok_next (M := prog_LinkM o0 L1 n2 n3 o4 L5 n6 n7 O1 O2 N) (cd := 1000000) (cm := 0) (y := (.h2m1 (v4) ((v9 + 1)) : prog_LinkX)) (fu := 4000) (orc := (orcw [(0, false)] [(0, (((v9 + 1) : Nat) : Int))] [] [] [])) (live := [0, 1, 2, 3]) (tv := fun _ => [some (vs 3 0 v4.length v4.length), some (vs 0 0 2 2), some (vi (2 : Int)), some (vi (((v9 + 1) : Nat) : Int))]) (bl := [some (.cells [vs 1 o0 n2 n3, vs 2 o4 n6 n7] 22), some (.ro O1), some (.ro O2), some (.cells (rowV E_iiii v4) 35)]) (ob := [((IntKind.i64.wrap ((v9 : Int) + (1 : Int))) == (((v9 + 1) : Nat) : Int), true), ((decide ((v13 : Int) < (n6 : Int))), false)]) rfl (show 2 ∈ rids (prog_LinkK 3) from by decide +kernel) (fun gv => by kernel_rfl) (obs_cons (beq_iff_eq.2 ((wrap_i64 ltA).trans (by first | rfl | omega))) <| oN obs_nil) rfl (by decide) (by rfl) (fun _ => ⟨rr, ⟨rr, ⟨rr, ⟨rr, trivial⟩⟩⟩⟩) ⟨⟨rfl, ⟨[], by rfl⟩, by rfl⟩, ⟨rfl, ⟨rfl, ⟨(same_row (E := E_iiii) (α := R_iiii) _ v4 _), trivial⟩⟩⟩⟩
  ·
   exact Mach.ok_none

theorem prog_Link_en (o0 : Nat) (L1 : List R_iiii) (n2 n3 o4 : Nat) (L5 : List R_iiii) (n6 n7 : Nat) (O1 : Obj) (F1 : RO_iiii O1 o0 L1) (O2 : Obj) (F2 : RO_iiii O2 o4 L5) (N : Nat) : (prog_LinkM o0 L1 n2 n3 o4 L5 n6 n7 O1 O2 N).Enter Try.prog ext_Pp #[vs 0 0 2 2] (prog_LinkIn L1 n2 n3 L5 n6 n7 N) := by
 unfold prog_LinkIn
 exact Mach.en_head (bK := prog_LinkC 1) (M := prog_LinkM o0 L1 n2 n3 o4 L5 n6 n7 O1 O2 N) (cd := 1000000) (cm := 0) (y := (.h1m0 (0) (0) : prog_LinkX)) (fu := 4000) (orc := (orcw [] [] [] [] [])) (live := [0, 1, 2]) (tv := [some (vs 0 0 2 2), some (v0), some (vs 0 0 2 2), some (vi (2 : Int)), some (v0)]) (bl := [some (.cells [vs 1 o0 n2 n3, vs 2 o4 n6 n7] 22), some (.ro O1), some (.ro O2)]) (ob := []) rfl rfl (show rids (prog_LinkC 1).2 = [] from rfl) (by kernel_rfl) obs_nil rfl (by decide) (by rfl) ⟨rr, ⟨⟨Eq.trans (show (vi ((0 : Nat) : Int) : Value) = v0 from (congrArg (Value.int .i64) (by first | rfl | omega))) (by rfl), by rfl⟩, ⟨rr, ⟨rr, ⟨⟨Eq.trans (show (vi ((0 : Nat) : Int) : Value) = v0 from (congrArg (Value.int .i64) (by first | rfl | omega))) (by rfl), by rfl⟩, trivial⟩⟩⟩⟩⟩ ⟨⟨rfl, ⟨[], by rfl⟩, by rfl⟩, ⟨rfl, ⟨rfl, trivial⟩⟩⟩

theorem prog_Link_spec (o0 : Nat) (L1 : List R_iiii) (n2 n3 o4 : Nat) (L5 : List R_iiii) (n6 n7 : Nat) (O1 : Obj) (F1 : RO_iiii O1 o0 L1) (O2 : Obj) (F2 : RO_iiii O2 o4 L5) (N : Nat) (r : prog_LinkR) (h : prog_Link L1 n2 n3 L5 n6 n7 N = some r) : LSpec Try.prog 6 #[vs 0 0 2 2] [.cells [vs 1 o0 n2 n3, vs 2 o4 n6 n7] 22, .ro O1, .ro O2] (prog_LinkV o0 L1 n2 n3 o4 L5 n6 n7 O1 O2 r) (prog_LinkPo o0 L1 n2 n3 o4 L5 n6 n7 O1 O2 r) :=
 Mach.spec fit_Pp (prog_LinkM o0 L1 n2 n3 o4 L5 n6 n7 O1 O2 N) Try.func6 (by kernel_rfl) (by kernel_rfl) (fun x => by cases x <;> exact le_far _ rfl) (fun r => by cases r <;> exact le_far _ rfl) (fun x => by
  cases x with
  | h1m0 _ _ => exact fun _ => (show ¬ (1 ∈ rids (prog_LinkC 1).2) from by decide +kernel)
  | h2m0 _ => exact fun _ => (show ¬ (2 ∈ rids (prog_LinkC 2).2) from by decide +kernel)
  | h2m1 _ _ => exact fun _ => (show ¬ (2 ∈ rids (prog_LinkC 2).2) from by decide +kernel)
  | h3m0 _ => exact fun _ => (show ¬ (3 ∈ rids (prog_LinkC 3).2) from by decide +kernel)
  | h3m1 _ _ _ _ => exact fun _ => (show ¬ (3 ∈ rids (prog_LinkC 3).2) from by decide +kernel)
  | h3m2 _ => exact fun _ => (show ¬ (3 ∈ rids (prog_LinkC 3).2) from by decide +kernel)
  | h3m3 _ _ _ _ => exact fun _ => (show ¬ (3 ∈ rids (prog_LinkC 3).2) from by decide +kernel)
  ) (fun x => (show (prog_LinkM o0 L1 n2 n3 o4 L5 n6 n7 O1 O2 N).Ok Try.prog ext_Pp x (prog_LinkStep L1 n2 n3 L5 n6 n7 N x) from by
  cases x with
  | h1m0 v4 v6 => exact prog_Link_ok1_0 o0 L1 n2 n3 o4 L5 n6 n7 O1 F1 O2 F2 v4 v6 N
  | h2m0 v5 => exact prog_Link_ok2_0 o0 L1 n2 n3 o4 L5 n6 n7 O1 F1 O2 F2 v5 N
  | h2m1 v4 v6 => exact prog_Link_ok2_1 o0 L1 n2 n3 o4 L5 n6 n7 O1 F1 O2 F2 v4 v6 N
  | h3m0 v8 => exact prog_Link_ok3_0 o0 L1 n2 n3 o4 L5 n6 n7 O1 F1 O2 F2 v8 N
  | h3m1 v4 v7 v9 v13 => exact prog_Link_ok3_1 o0 L1 n2 n3 o4 L5 n6 n7 O1 F1 O2 F2 v4 v7 v9 v13 N
  | h3m2 v8 => exact prog_Link_ok3_2 o0 L1 n2 n3 o4 L5 n6 n7 O1 F1 O2 F2 v8 N
  | h3m3 v4 v7 v9 v13 => exact prog_Link_ok3_3 o0 L1 n2 n3 o4 L5 n6 n7 O1 F1 O2 F2 v4 v7 v9 v13 N
  )) (prog_Link_en o0 L1 n2 n3 o4 L5 n6 n7 O1 F1 O2 F2 N) (n := N) h

noncomputable def prog_LinkT0 (o0 : Nat) (L1 : List R_iiii) (n2 n3 o4 : Nat) (L5 : List R_iiii) (n6 n7 : Nat) (O1 O2 : Obj) (w4 : Int) (k0 k1 k2 n : Nat) : Told := .call [(k0, .cells [vs k1 o0 n2 n3, vs k2 o4 n6 n7] 22), (k1, .ro O1), (k2, .ro O2)] (Value.tuple #[vn, vi w4]) [] 0
def prog_LinkP0 (A : Array Value) (o0 : Nat) (L1 : List R_iiii) (n2 n3 o4 : Nat) (L5 : List R_iiii) (n6 n7 : Nat) (O1 O2 : Obj) (w4 : Int) (k0 k1 k2 n : Nat) : Prop := CallSpec Try.prog 6 A [(k0, .cells [vs k1 o0 n2 n3, vs k2 o4 n6 n7] 22), (k1, .ro O1), (k2, .ro O2)] (Value.tuple #[vn, vi w4]) [] n 0

theorem prog_LinkC0 (A : Array Value) (o0 : Nat) (L1 : List R_iiii) (n2 n3 o4 : Nat) (L5 : List R_iiii) (n6 n7 : Nat) (O1 : Obj) (F1 : RO_iiii O1 o0 L1) (O2 : Obj) (F2 : RO_iiii O2 o4 L5) (w4 : Int) (N : Nat) (h : prog_Link L1 n2 n3 L5 n6 n7 N = some (.r0 w4)) (k0 k1 k2 n : Nat) (hA : A = #[vs k0 0 2 2]) (hnd : ([k0, k1, k2] : List Nat).Nodup) (hlt : ∀ k ∈ ([k0, k1, k2] : List Nat), k < n) : prog_LinkP0 A o0 L1 n2 n3 o4 L5 n6 n7 O1 O2 w4 k0 k1 k2 n :=
 cs_args hA (LSpec.callL (show LSpec Try.prog 6 #[vs 0 0 2 2] [.cells [vs 1 o0 n2 n3, vs 2 o4 n6 n7] 22, .ro O1, .ro O2] (Value.tuple #[vn, vi w4]) [some (.cells [vs 1 o0 n2 n3, vs 2 o4 n6 n7] 22), some (.ro O1), some (.ro O2)] from prog_Link_spec o0 L1 n2 n3 o4 L5 n6 n7 O1 F1 O2 F2 N _ h) [k0, k1, k2] n [] rfl hnd hlt (show 3 ≤ 3 from by decide) (show ∀ j ∈ ([] : List Nat), j < 3 from by decide) (by rfl) ⟨rfl, ⟨rfl, ⟨rfl, trivial⟩⟩⟩ (by rfl) ⟨rfl, ⟨rfl, ⟨rfl, trivial⟩⟩⟩ ⟨.inr rfl, ⟨.inr rfl, ⟨.inr rfl, trivial⟩⟩⟩ rfl rfl rfl (cons_eq (pair_eq rfl rfl) (cons_eq (pair_eq rfl rfl) (cons_eq (pair_eq rfl rfl) rfl))) rfl)

noncomputable def prog_LinkT1 (o0 : Nat) (L1 : List R_iiii) (n2 n3 o4 : Nat) (L5 : List R_iiii) (n6 n7 : Nat) (O1 O2 : Obj) (w4 : List R_iiii) (k0 k1 k2 n : Nat) : Told := .call [(k0, .cells [vs k1 o0 n2 n3, vs k2 o4 n6 n7] 22), (k1, .ro O1), (k2, .ro O2)] (Value.tuple #[vs n 0 w4.length w4.length, v0]) [(n, some (.cells (rowV E_iiii w4) 35))] 1
def prog_LinkP1 (A : Array Value) (o0 : Nat) (L1 : List R_iiii) (n2 n3 o4 : Nat) (L5 : List R_iiii) (n6 n7 : Nat) (O1 O2 : Obj) (w4 : List R_iiii) (k0 k1 k2 n : Nat) : Prop := CallSpec Try.prog 6 A [(k0, .cells [vs k1 o0 n2 n3, vs k2 o4 n6 n7] 22), (k1, .ro O1), (k2, .ro O2)] (Value.tuple #[vs n 0 w4.length w4.length, v0]) [(n, some (.cells (rowV E_iiii w4) 35))] n 1

theorem prog_LinkC1 (A : Array Value) (o0 : Nat) (L1 : List R_iiii) (n2 n3 o4 : Nat) (L5 : List R_iiii) (n6 n7 : Nat) (O1 : Obj) (F1 : RO_iiii O1 o0 L1) (O2 : Obj) (F2 : RO_iiii O2 o4 L5) (w4 : List R_iiii) (N : Nat) (h : prog_Link L1 n2 n3 L5 n6 n7 N = some (.r1 w4)) (k0 k1 k2 n : Nat) (hA : A = #[vs k0 0 2 2]) (hnd : ([k0, k1, k2] : List Nat).Nodup) (hlt : ∀ k ∈ ([k0, k1, k2] : List Nat), k < n) : prog_LinkP1 A o0 L1 n2 n3 o4 L5 n6 n7 O1 O2 w4 k0 k1 k2 n :=
 cs_args hA (LSpec.callL (show LSpec Try.prog 6 #[vs 0 0 2 2] [.cells [vs 1 o0 n2 n3, vs 2 o4 n6 n7] 22, .ro O1, .ro O2] (Value.tuple #[vs 3 0 w4.length w4.length, v0]) [some (.cells [vs 1 o0 n2 n3, vs 2 o4 n6 n7] 22), some (.ro O1), some (.ro O2), some (.cells (rowV E_iiii w4) 35)] from prog_Link_spec o0 L1 n2 n3 o4 L5 n6 n7 O1 F1 O2 F2 N _ h) [k0, k1, k2] n [3] rfl hnd hlt (show 3 ≤ 4 from by decide) (show ∀ j ∈ ([3] : List Nat), j < 4 from by decide) (by rfl) ⟨rfl, ⟨rfl, ⟨rfl, trivial⟩⟩⟩ (by rfl) ⟨rfl, ⟨rfl, ⟨rfl, ⟨(under_row _ _ _), trivial⟩⟩⟩⟩ ⟨.inr rfl, ⟨.inr rfl, ⟨.inr rfl, ⟨(by decide), trivial⟩⟩⟩⟩ rfl rfl rfl (cons_eq (pair_eq rfl rfl) (cons_eq (pair_eq rfl rfl) (cons_eq (pair_eq rfl rfl) rfl))) (cons_eq (pair_eq rfl (some_eq (renO_row _ _ _))) rfl))

noncomputable def ref11_SameV (o0 : Nat) (L1 : List R_iiii) (n2 n3 : Nat) (O0 : Obj) : ref11_SameR → Value
 | .r0 w2 => Value.bool w2
noncomputable def ref11_SamePo (o0 : Nat) (L1 : List R_iiii) (n2 n3 : Nat) (O0 : Obj) : ref11_SameR → List (Option AObj)
 | .r0 w2 => [some (.ro O0)]

def ref11_SameHd : ref11_SameX → Nat
 | .h1m0 => 1
noncomputable def ref11_SameL (o0 : Nat) (L1 : List R_iiii) (n2 n3 : Nat) (O0 : Obj) : ref11_SameX → List (Nat × Value)
 | .h1m0 => [(0, vn), (1, vs 0 o0 n2 n3), (5, v0)]
noncomputable def ref11_SameH (o0 : Nat) (L1 : List R_iiii) (n2 n3 : Nat) (O0 : Obj) : ref11_SameX → List (Option AObj)
 | .h1m0 => [some (.ro O0)]

noncomputable def ref11_SameC : Nat → Code × List Kont
 | 1 => headOf [1, 1, 0, 1, 3] (bodyC Try.f8) []
 | _ => (.skip, [])
def ref11_SameIL : Nat → Bool
 | 1 => true
 | _ => true
noncomputable def ref11_SameK (i : Nat) : List Kont := match ref11_SameIL i with | true => .rnd i :: (ref11_SameC i).2 | false => (ref11_SameC i).2

noncomputable def ref11_SameM (o0 : Nat) (L1 : List R_iiii) (n2 n3 : Nat) (O0 : Obj) (N : Nat) : Mach := ⟨Try.f8, [.ro O0], ref11_SameX, ref11_SameR, ref11_SameStep L1 n2 n3 N, ref11_SameHd, ref11_SameC, ref11_SameIL, ref11_SameL o0 L1 n2 n3 O0, ref11_SameH o0 L1 n2 n3 O0, ref11_SameV o0 L1 n2 n3 O0, ref11_SamePo o0 L1 n2 n3 O0⟩

theorem ref11_Same_ok1_0 (o0 : Nat) (L1 : List R_iiii) (n2 n3 : Nat) (O0 : Obj) (F0 : RO_iiii O0 o0 L1) (N : Nat) : (ref11_SameM o0 L1 n2 n3 O0 N).Ok Try.prog ext_Pp (.h1m0 : ref11_SameX) (ref11_SameStep L1 n2 n3 N (.h1m0 : ref11_SameX)) := by
 show (ref11_SameM o0 L1 n2 n3 O0 N).Ok Try.prog ext_Pp (.h1m0 : ref11_SameX) (ref11_Same_h1m0 L1 n2 n3 N)
 unfold ref11_Same_h1m0
 exact Mach.ok_fin (M := ref11_SameM o0 L1 n2 n3 O0 N) (cd := 1000000) (cm := 0) (r := (.r0 (true) : ref11_SameR)) (fu := 4000) (orc := (orcw [] [] [] [] [])) (live := [0]) (u := vT) (bl := [some (.ro O0)]) (ob := []) (fun gv => by kernel_rfl) obs_nil rfl (by decide) (by rfl) rr ⟨rfl, trivial⟩

theorem ref11_Same_en (o0 : Nat) (L1 : List R_iiii) (n2 n3 : Nat) (O0 : Obj) (F0 : RO_iiii O0 o0 L1) (N : Nat) : (ref11_SameM o0 L1 n2 n3 O0 N).Enter Try.prog ext_Pp #[vn, vs 0 o0 n2 n3] (ref11_SameIn L1 n2 n3 N) := by
 unfold ref11_SameIn
 refine Mach.en_ite (fun g0 => ?_) (fun g0 => ?_)
 ·
  exact Mach.en_fin (M := ref11_SameM o0 L1 n2 n3 O0 N) (cd := 1000000) (cm := 0) (r := (.r0 (false) : ref11_SameR)) (fu := 4000) (orc := (orcw [(0, true)] [] [] [] [])) (live := [0]) (u := vf) (bl := [some (.ro O0)]) (ob := [(((0 : Int) != (n2 : Int)), true)]) (by kernel_rfl) (oD obs_nil) rfl (by decide) (by rfl) rr ⟨rfl, trivial⟩
 ·
  exact Mach.en_head (bK := ref11_SameC 1) (M := ref11_SameM o0 L1 n2 n3 O0 N) (cd := 1000000) (cm := 0) (y := (.h1m0 : ref11_SameX)) (fu := 4000) (orc := (orcw [(0, false)] [] [] [] [])) (live := [0]) (tv := [some (vn), some (vs 0 o0 n2 n3), some (v0)]) (bl := [some (.ro O0)]) (ob := [(((0 : Int) != (n2 : Int)), false)]) rfl rfl (show rids (ref11_SameC 1).2 = [] from rfl) (by kernel_rfl) (oE obs_nil) rfl (by decide) (by rfl) ⟨rr, ⟨rr, ⟨rr, trivial⟩⟩⟩ ⟨rfl, trivial⟩

theorem ref11_Same_spec (o0 : Nat) (L1 : List R_iiii) (n2 n3 : Nat) (O0 : Obj) (F0 : RO_iiii O0 o0 L1) (N : Nat) (r : ref11_SameR) (h : ref11_Same L1 n2 n3 N = some r) : LSpec Try.prog 8 #[vn, vs 0 o0 n2 n3] [.ro O0] (ref11_SameV o0 L1 n2 n3 O0 r) (ref11_SamePo o0 L1 n2 n3 O0 r) :=
 Mach.spec fit_Pp (ref11_SameM o0 L1 n2 n3 O0 N) Try.func8 (by kernel_rfl) (by kernel_rfl) (fun x => by cases x <;> exact le_far _ rfl) (fun r => by cases r <;> exact le_far _ rfl) (fun x => by
  cases x with
  | h1m0 => exact fun _ => (show ¬ (1 ∈ rids (ref11_SameC 1).2) from by decide +kernel)
  ) (fun x => (show (ref11_SameM o0 L1 n2 n3 O0 N).Ok Try.prog ext_Pp x (ref11_SameStep L1 n2 n3 N x) from by
  cases x with
  | h1m0 => exact ref11_Same_ok1_0 o0 L1 n2 n3 O0 F0 N
  )) (ref11_Same_en o0 L1 n2 n3 O0 F0 N) (n := N) h

noncomputable def ref11_SameT0 (o0 : Nat) (L1 : List R_iiii) (n2 n3 : Nat) (O0 : Obj) (w2 : Bool) (k0 n : Nat) : Told := .call [(k0, .ro O0)] (Value.bool w2) [] 0
def ref11_SameP0 (A : Array Value) (o0 : Nat) (L1 : List R_iiii) (n2 n3 : Nat) (O0 : Obj) (w2 : Bool) (k0 n : Nat) : Prop := CallSpec Try.prog 8 A [(k0, .ro O0)] (Value.bool w2) [] n 0

theorem ref11_SameC0 (A : Array Value) (o0 : Nat) (L1 : List R_iiii) (n2 n3 : Nat) (O0 : Obj) (F0 : RO_iiii O0 o0 L1) (w2 : Bool) (N : Nat) (h : ref11_Same L1 n2 n3 N = some (.r0 w2)) (k0 n : Nat) (hA : A = #[vn, vs k0 o0 n2 n3]) (hnd : ([k0] : List Nat).Nodup) (hlt : ∀ k ∈ ([k0] : List Nat), k < n) : ref11_SameP0 A o0 L1 n2 n3 O0 w2 k0 n :=
 cs_args hA (LSpec.callL (show LSpec Try.prog 8 #[vn, vs 0 o0 n2 n3] [.ro O0] (Value.bool w2) [some (.ro O0)] from ref11_Same_spec o0 L1 n2 n3 O0 F0 N _ h) [k0] n [] rfl hnd hlt (show 1 ≤ 1 from by decide) (show ∀ j ∈ ([] : List Nat), j < 1 from by decide) (by rfl) ⟨rfl, trivial⟩ (by rfl) ⟨rfl, trivial⟩ ⟨.inr rfl, trivial⟩ rfl rfl rfl (cons_eq (pair_eq rfl rfl) rfl) rfl)

noncomputable def ref11_Same_2V (L0 : List R_iiii) (n1 n2 o3 : Nat) (L4 : List R_iiii) (n5 n6 : Nat) (O1 : Obj) : ref11_Same_2R → Value
 | .r0 w3 => Value.bool w3
noncomputable def ref11_Same_2Po (L0 : List R_iiii) (n1 n2 o3 : Nat) (L4 : List R_iiii) (n5 n6 : Nat) (O1 : Obj) : ref11_Same_2R → List (Option AObj)
 | .r0 w3 => [some (.cells (rowV E_iiii L0) 35), some (.ro O1)]

def ref11_Same_2Hd : ref11_Same_2X → Nat
 | .h1m0 v7 => 1
noncomputable def ref11_Same_2L (L0 : List R_iiii) (n1 n2 o3 : Nat) (L4 : List R_iiii) (n5 n6 : Nat) (O1 : Obj) : ref11_Same_2X → List (Nat × Value)
 | .h1m0 v7 => [(0, vs 0 0 n1 n2), (1, vs 1 o3 n5 n6), (5, vi (v7 : Int))]
noncomputable def ref11_Same_2H (L0 : List R_iiii) (n1 n2 o3 : Nat) (L4 : List R_iiii) (n5 n6 : Nat) (O1 : Obj) : ref11_Same_2X → List (Option AObj)
 | .h1m0 v7 => [some (.cells (rowV E_iiii L0) 35), some (.ro O1)]

noncomputable def ref11_Same_2C : Nat → Code × List Kont
 | 1 => headOf [1, 1, 0, 1, 3] (bodyC Try.f8) []
 | _ => (.skip, [])
def ref11_Same_2IL : Nat → Bool
 | 1 => true
 | _ => true
noncomputable def ref11_Same_2K (i : Nat) : List Kont := match ref11_Same_2IL i with | true => .rnd i :: (ref11_Same_2C i).2 | false => (ref11_Same_2C i).2

noncomputable def ref11_Same_2M (L0 : List R_iiii) (n1 n2 o3 : Nat) (L4 : List R_iiii) (n5 n6 : Nat) (O1 : Obj) (N : Nat) : Mach := ⟨Try.f8, [.cells (rowV E_iiii L0) 35, .ro O1], ref11_Same_2X, ref11_Same_2R, ref11_Same_2Step L0 n1 n2 L4 n5 n6 N, ref11_Same_2Hd, ref11_Same_2C, ref11_Same_2IL, ref11_Same_2L L0 n1 n2 o3 L4 n5 n6 O1, ref11_Same_2H L0 n1 n2 o3 L4 n5 n6 O1, ref11_Same_2V L0 n1 n2 o3 L4 n5 n6 O1, ref11_Same_2Po L0 n1 n2 o3 L4 n5 n6 O1⟩

theorem ref11_Same_2_ok1_0 (L0 : List R_iiii) (n1 n2 o3 : Nat) (L4 : List R_iiii) (n5 n6 : Nat) (O1 : Obj) (F1 : RO_iiii O1 o3 L4) (v7 N : Nat) : (ref11_Same_2M L0 n1 n2 o3 L4 n5 n6 O1 N).Ok Try.prog ext_Pp (.h1m0 v7 : ref11_Same_2X) (ref11_Same_2Step L0 n1 n2 L4 n5 n6 N (.h1m0 v7 : ref11_Same_2X)) := by
 show (ref11_Same_2M L0 n1 n2 o3 L4 n5 n6 O1 N).Ok Try.prog ext_Pp (.h1m0 v7 : ref11_Same_2X) (ref11_Same_2_h1m0 L0 n1 n2 L4 n5 n6 N v7)
 unfold ref11_Same_2_h1m0
 refine Mach.ok_ite (fun g0 => ?_) (fun g0 => ?_)
 ·
  refine Mach.ok_ite (fun g1 => ?_) (fun g1 => ?_)
  ·
   refine Mach.ok_ite (fun g2 => ?_) (fun g2 => ?_)
   ·
    refine Mach.ok_ite (fun g3 => ?_) (fun g3 => ?_)
    ·
     refine Mach.ok_ite (fun g4 => ?_) (fun g4 => ?_)
     ·
      exact Mach.ok_fin (M := ref11_Same_2M L0 n1 n2 o3 L4 n5 n6 O1 N) (cd := 1000000) (cm := 0) (r := (.r0 (false) : ref11_Same_2R)) (fu := 4000) (orc := (orcw [(0, true), (1, true)] [] [(0, v7), (1, v7)] [(0, [.i (L0.getD v7 R_iiii.z).a0, .i (L0.getD v7 R_iiii.z).a1, .i (L0.getD v7 R_iiii.z).a2, .i (L0.getD v7 R_iiii.z).a3]), (1, [.i (L4.getD v7 R_iiii.z).a0, .i (L4.getD v7 R_iiii.z).a1, .i (L4.getD v7 R_iiii.z).a2, .i (L4.getD v7 R_iiii.z).a3])] [])) (live := [0, 1]) (u := vf) (bl := [some (.cells (rowV E_iiii L0) 35), some (.ro O1)]) (ob := [((!(((L0.getD v7 R_iiii.z).a0 == (L4.getD v7 R_iiii.z).a0) && (((L0.getD v7 R_iiii.z).a1 == (L4.getD v7 R_iiii.z).a1) && (((L0.getD v7 R_iiii.z).a2 == (L4.getD v7 R_iiii.z).a2) && (((L0.getD v7 R_iiii.z).a3 == (L4.getD v7 R_iiii.z).a3) && true))))), true), (sameR (roRow O1 (o3 + (v7 * 4)) 4) [.i (L4.getD v7 R_iiii.z).a0, .i (L4.getD v7 R_iiii.z).a1, .i (L4.getD v7 R_iiii.z).a2, .i (L4.getD v7 R_iiii.z).a3], true), (Nat.blt v7 n5, true), ((v7 : Int) == Int.ofNat v7, true), (sameR (takeN 4 (List.drop (0 + (v7 * 4)) (rowV E_iiii L0))) [.i (L0.getD v7 R_iiii.z).a0, .i (L0.getD v7 R_iiii.z).a1, .i (L0.getD v7 R_iiii.z).a2, .i (L0.getD v7 R_iiii.z).a3], true), (Nat.blt v7 n1, true), ((v7 : Int) == Int.ofNat v7, true), ((decide ((v7 : Int) < (n1 : Int))), true)]) (fun gv => by kernel_rfl) (obs_cons (by rw [Bool.not_eq_true']; exact Bool.eq_false_iff.2 (by simp only [ne_eq, Bool.and_true, Bool.and_eq_true, beq_iff_eq]; first | omega | (intro hh; simp_all; done))) <| obs_cons ((show (o3 + v7 * 4 + 0) = (o3 + (v7 * 4)) from by omega) ▸ F1 v7 (by omega) 0 4 (show 0 + 4 ≤ 4 from by decide)) <| oB <| oI <| obs_cons (rowV_load (E := E_iiii) (L := L0) (i := v7) (q := 0) (by omega) (show (0 + (v7 * 4)) = v7 * 4 + 0 from by omega) (show 0 + 4 ≤ 4 from by decide) rfl rfl) <| oB <| oI <| oY obs_nil) rfl (by decide) (by rfl) rr ⟨(same_row (E := E_iiii) (α := R_iiii) _ L0 _), ⟨rfl, trivial⟩⟩
     ·
      refine Mach.ok_ite (fun g5 => ?_) (fun g5 => ?_)
      ·
       exact Mach.ok_next (M := ref11_Same_2M L0 n1 n2 o3 L4 n5 n6 O1 N) (cd := 1000000) (cm := 0) (y := (.h1m0 ((v7 + 1)) : ref11_Same_2X)) (fu := 4000) (orc := (orcw [(0, true), (1, false)] [(0, (((v7 + 1) : Nat) : Int))] [(0, v7), (1, v7)] [(0, [.i (L0.getD v7 R_iiii.z).a0, .i (L0.getD v7 R_iiii.z).a1, .i (L0.getD v7 R_iiii.z).a2, .i (L0.getD v7 R_iiii.z).a3]), (1, [.i (L4.getD v7 R_iiii.z).a0, .i (L4.getD v7 R_iiii.z).a1, .i (L4.getD v7 R_iiii.z).a2, .i (L4.getD v7 R_iiii.z).a3])] [])) (live := [0, 1]) (tv := fun _ => [some (vs 0 0 n1 n2), some (vs 1 o3 n5 n6), some (vi (((v7 + 1) : Nat) : Int))]) (bl := [some (.cells (rowV E_iiii L0) 35), some (.ro O1)]) (ob := [((IntKind.i64.wrap ((v7 : Int) + (1 : Int))) == (((v7 + 1) : Nat) : Int), true), ((!(((L0.getD v7 R_iiii.z).a0 == (L4.getD v7 R_iiii.z).a0) && (((L0.getD v7 R_iiii.z).a1 == (L4.getD v7 R_iiii.z).a1) && (((L0.getD v7 R_iiii.z).a2 == (L4.getD v7 R_iiii.z).a2) && (((L0.getD v7 R_iiii.z).a3 == (L4.getD v7 R_iiii.z).a3) && true))))), false), (sameR (roRow O1 (o3 + (v7 * 4)) 4) [.i (L4.getD v7 R_iiii.z).a0, .i (L4.getD v7 R_iiii.z).a1, .i (L4.getD v7 R_iiii.z).a2, .i (L4.getD v7 R_iiii.z).a3], true), (Nat.blt v7 n5, true), ((v7 : Int) == Int.ofNat v7, true), (sameR (takeN 4 (List.drop (0 + (v7 * 4)) (rowV E_iiii L0))) [.i (L0.getD v7 R_iiii.z).a0, .i (L0.getD v7 R_iiii.z).a1, .i (L0.getD v7 R_iiii.z).a2, .i (L0.getD v7 R_iiii.z).a3], true), (Nat.blt v7 n1, true), ((v7 : Int) == Int.ofNat v7, true), ((decide ((v7 : Int) < (n1 : Int))), true)]) rfl (show 1 ∈ rids (ref11_Same_2K 1) from by decide +kernel) (fun gv => by kernel_rfl) (obs_cons (beq_iff_eq.2 ((wrap_i64 ltA).trans (by first | rfl | omega))) <| obs_cons (by rw [Bool.not_eq_false']; first | (simp only [beq_self_eq_true, Bool.and_self]; done) | (simp only [Bool.and_true, Bool.and_eq_true, beq_iff_eq] <;> first | omega | (simp_all; done))) <| obs_cons ((show (o3 + v7 * 4 + 0) = (o3 + (v7 * 4)) from by omega) ▸ F1 v7 (by omega) 0 4 (show 0 + 4 ≤ 4 from by decide)) <| oB <| oI <| obs_cons (rowV_load (E := E_iiii) (L := L0) (i := v7) (q := 0) (by omega) (show (0 + (v7 * 4)) = v7 * 4 + 0 from by omega) (show 0 + 4 ≤ 4 from by decide) rfl rfl) <| oB <| oI <| oY obs_nil) rfl (by decide) (by rfl) (fun _ => ⟨rr, ⟨rr, ⟨rr, trivial⟩⟩⟩) ⟨(same_row (E := E_iiii) (α := R_iiii) _ L0 _), ⟨rfl, trivial⟩⟩
      ·
       exact Mach.ok_none
    ·
     exact Mach.ok_none
   ·
    exact Mach.ok_none
  ·
   exact Mach.ok_none
 ·
  exact Mach.ok_fin (M := ref11_Same_2M L0 n1 n2 o3 L4 n5 n6 O1 N) (cd := 1000000) (cm := 0) (r := (.r0 (true) : ref11_Same_2R)) (fu := 4000) (orc := (orcw [(0, false)] [] [] [] [])) (live := [0, 1]) (u := vT) (bl := [some (.cells (rowV E_iiii L0) 35), some (.ro O1)]) (ob := [((decide ((v7 : Int) < (n1 : Int))), false)]) (fun gv => by kernel_rfl) (oN obs_nil) rfl (by decide) (by rfl) rr ⟨(same_row (E := E_iiii) (α := R_iiii) _ L0 _), ⟨rfl, trivial⟩⟩

theorem ref11_Same_2_en (L0 : List R_iiii) (n1 n2 o3 : Nat) (L4 : List R_iiii) (n5 n6 : Nat) (O1 : Obj) (F1 : RO_iiii O1 o3 L4) (N : Nat) : (ref11_Same_2M L0 n1 n2 o3 L4 n5 n6 O1 N).Enter Try.prog ext_Pp #[vs 0 0 n1 n2, vs 1 o3 n5 n6] (ref11_Same_2In L0 n1 n2 L4 n5 n6 N) := by
 unfold ref11_Same_2In
 refine Mach.en_ite (fun g0 => ?_) (fun g0 => ?_)
 ·
  exact Mach.en_fin (M := ref11_Same_2M L0 n1 n2 o3 L4 n5 n6 O1 N) (cd := 1000000) (cm := 0) (r := (.r0 (false) : ref11_Same_2R)) (fu := 4000) (orc := (orcw [(0, true)] [] [] [] [])) (live := [0, 1]) (u := vf) (bl := [some (.cells (rowV E_iiii L0) 35), some (.ro O1)]) (ob := [(((n1 : Int) != (n5 : Int)), true)]) (by kernel_rfl) (oD obs_nil) rfl (by decide) (by rfl) rr ⟨(same_row (E := E_iiii) (α := R_iiii) _ L0 _), ⟨rfl, trivial⟩⟩
 ·
  exact Mach.en_head (bK := ref11_Same_2C 1) (M := ref11_Same_2M L0 n1 n2 o3 L4 n5 n6 O1 N) (cd := 1000000) (cm := 0) (y := (.h1m0 (0) : ref11_Same_2X)) (fu := 4000) (orc := (orcw [(0, false)] [] [] [] [])) (live := [0, 1]) (tv := [some (vs 0 0 n1 n2), some (vs 1 o3 n5 n6), some (v0)]) (bl := [some (.cells (rowV E_iiii L0) 35), some (.ro O1)]) (ob := [(((n1 : Int) != (n5 : Int)), false)]) rfl rfl (show rids (ref11_Same_2C 1).2 = [] from rfl) (by kernel_rfl) (oE obs_nil) rfl (by decide) (by rfl) ⟨rr, ⟨rr, ⟨⟨Eq.trans (show (vi ((0 : Nat) : Int) : Value) = v0 from (congrArg (Value.int .i64) (by first | rfl | omega))) (by rfl), by rfl⟩, trivial⟩⟩⟩ ⟨(same_row (E := E_iiii) (α := R_iiii) _ L0 _), ⟨rfl, trivial⟩⟩

theorem ref11_Same_2_spec (L0 : List R_iiii) (n1 n2 o3 : Nat) (L4 : List R_iiii) (n5 n6 : Nat) (O1 : Obj) (F1 : RO_iiii O1 o3 L4) (N : Nat) (r : ref11_Same_2R) (h : ref11_Same_2 L0 n1 n2 L4 n5 n6 N = some r) : LSpec Try.prog 8 #[vs 0 0 n1 n2, vs 1 o3 n5 n6] [.cells (rowV E_iiii L0) 35, .ro O1] (ref11_Same_2V L0 n1 n2 o3 L4 n5 n6 O1 r) (ref11_Same_2Po L0 n1 n2 o3 L4 n5 n6 O1 r) :=
 Mach.spec fit_Pp (ref11_Same_2M L0 n1 n2 o3 L4 n5 n6 O1 N) Try.func8 (by kernel_rfl) (by kernel_rfl) (fun x => by cases x <;> exact le_far _ rfl) (fun r => by cases r <;> exact le_far _ rfl) (fun x => by
  cases x with
  | h1m0 _ => exact fun _ => (show ¬ (1 ∈ rids (ref11_Same_2C 1).2) from by decide +kernel)
  ) (fun x => (show (ref11_Same_2M L0 n1 n2 o3 L4 n5 n6 O1 N).Ok Try.prog ext_Pp x (ref11_Same_2Step L0 n1 n2 L4 n5 n6 N x) from by
  cases x with
  | h1m0 v7 => exact ref11_Same_2_ok1_0 L0 n1 n2 o3 L4 n5 n6 O1 F1 v7 N
  )) (ref11_Same_2_en L0 n1 n2 o3 L4 n5 n6 O1 F1 N) (n := N) h

noncomputable def ref11_Same_2T0 (L0 : List R_iiii) (n1 n2 o3 : Nat) (L4 : List R_iiii) (n5 n6 : Nat) (O1 : Obj) (w3 : Bool) (k0 k1 n : Nat) : Told := .call [(k0, .cells (rowV E_iiii L0) 35), (k1, .ro O1)] (Value.bool w3) [] 0
def ref11_Same_2P0 (A : Array Value) (L0 : List R_iiii) (n1 n2 o3 : Nat) (L4 : List R_iiii) (n5 n6 : Nat) (O1 : Obj) (w3 : Bool) (k0 k1 n : Nat) : Prop := CallSpec Try.prog 8 A [(k0, .cells (rowV E_iiii L0) 35), (k1, .ro O1)] (Value.bool w3) [] n 0

theorem ref11_Same_2C0 (A : Array Value) (L0 : List R_iiii) (n1 n2 o3 : Nat) (L4 : List R_iiii) (n5 n6 : Nat) (O1 : Obj) (F1 : RO_iiii O1 o3 L4) (w3 : Bool) (N : Nat) (h : ref11_Same_2 L0 n1 n2 L4 n5 n6 N = some (.r0 w3)) (k0 k1 n : Nat) (hA : A = #[vs k0 0 n1 n2, vs k1 o3 n5 n6]) (hnd : ([k0, k1] : List Nat).Nodup) (hlt : ∀ k ∈ ([k0, k1] : List Nat), k < n) : ref11_Same_2P0 A L0 n1 n2 o3 L4 n5 n6 O1 w3 k0 k1 n :=
 cs_args hA (LSpec.callL (show LSpec Try.prog 8 #[vs 0 0 n1 n2, vs 1 o3 n5 n6] [.cells (rowV E_iiii L0) 35, .ro O1] (Value.bool w3) [some (.cells (rowV E_iiii L0) 35), some (.ro O1)] from ref11_Same_2_spec L0 n1 n2 o3 L4 n5 n6 O1 F1 N _ h) [k0, k1] n [] rfl hnd hlt (show 2 ≤ 2 from by decide) (show ∀ j ∈ ([] : List Nat), j < 2 from by decide) (by rfl) ⟨(under_row _ _ _), ⟨rfl, trivial⟩⟩ (by rfl) ⟨(under_row _ _ _), ⟨rfl, trivial⟩⟩ ⟨.inr rfl, ⟨.inr rfl, trivial⟩⟩ rfl rfl rfl (cons_eq (pair_eq rfl (renO_row _ _ _)) (cons_eq (pair_eq rfl rfl) rfl)) rfl)

noncomputable def ref10_TargetV (a0 a1 a2 a3 : Int) : ref10_TargetR → Value
 | .r0 w0 w1 => Value.tuple #[vi w0, Value.bool w1]
noncomputable def ref10_TargetPo (a0 a1 a2 a3 : Int) : ref10_TargetR → List (Option AObj)
 | .r0 w0 w1 => []

theorem ref10_Target_fx (a0 a1 a2 a3 : Int) (N : Nat) : Fx Try.prog ext_Pp Try.f11 [] #[Value.agg #[vi a0, vi a1, vi a2, vi a3]] (ref10_TargetV a0 a1 a2 a3) (ref10_TargetPo a0 a1 a2 a3) (ref10_Target a0 a1 a2 a3 N) := by
 unfold ref10_Target
 refine fx_ite (fun g0 => ?_) (fun g0 => ?_)
 ·
  exact fx_fin (r := (.r0 (a1) (true) : ref10_TargetR)) (fu := 4000) (orc := (orcw [(0, true)] [] [] [] [])) (live := []) (u := Value.tuple #[vi a1, vT]) (bl := []) (ob := [((a0 == (8 : Int)), true)]) (by kernel_rfl) (oT obs_nil) rfl (by decide) (by rfl) rr trivial
 ·
  refine fx_ite (fun g1 => ?_) (fun g1 => ?_)
  ·
   exact fx_fin (r := (.r0 (a2) (true) : ref10_TargetR)) (fu := 4000) (orc := (orcw [(0, false), (1, true)] [] [] [] [])) (live := []) (u := Value.tuple #[vi a2, vT]) (bl := []) (ob := [((a0 == (9 : Int)), true), ((a0 == (8 : Int)), false)]) (by kernel_rfl) (oT <| oF obs_nil) rfl (by decide) (by rfl) rr trivial
  ·
   exact fx_fin (r := (.r0 ((0 : Int)) (false) : ref10_TargetR)) (fu := 4000) (orc := (orcw [(0, false), (1, false)] [] [] [] [])) (live := []) (u := Value.tuple #[v0, vf]) (bl := []) (ob := [((a0 == (9 : Int)), false), ((a0 == (8 : Int)), false)]) (by kernel_rfl) (oF <| oF obs_nil) rfl (by decide) (by rfl) rr trivial

theorem ref10_Target_spec (a0 a1 a2 a3 : Int) (N : Nat) (r : ref10_TargetR) (h : ref10_Target a0 a1 a2 a3 N = some r) : LSpec Try.prog 11 #[Value.agg #[vi a0, vi a1, vi a2, vi a3]] [] (ref10_TargetV a0 a1 a2 a3 r) (ref10_TargetPo a0 a1 a2 a3 r) :=
 fx_spec fit_Pp Try.func11 (by kernel_rfl) (by kernel_rfl) (fun r => by cases r <;> exact le_far _ rfl) (ref10_Target_fx a0 a1 a2 a3 N) h

noncomputable def ref10_TargetT0 (a0 a1 a2 a3 w0 : Int) (w1 : Bool) (n : Nat) : Told := .call [] (Value.tuple #[vi w0, Value.bool w1]) [] 0
def ref10_TargetP0 (A : Array Value) (a0 a1 a2 a3 w0 : Int) (w1 : Bool) (n : Nat) : Prop := CallSpec Try.prog 11 A [] (Value.tuple #[vi w0, Value.bool w1]) [] n 0

theorem ref10_TargetC0 (A : Array Value) (a0 a1 a2 a3 w0 : Int) (w1 : Bool) (N : Nat) (h : ref10_Target a0 a1 a2 a3 N = some (.r0 w0 w1)) (n : Nat) (hA : A = #[Value.agg #[vi a0, vi a1, vi a2, vi a3]]) (hnd : ([] : List Nat).Nodup) (hlt : ∀ k ∈ ([] : List Nat), k < n) : ref10_TargetP0 A a0 a1 a2 a3 w0 w1  n :=
 cs_args hA (LSpec.callL (show LSpec Try.prog 11 #[Value.agg #[vi a0, vi a1, vi a2, vi a3]] [] (Value.tuple #[vi w0, Value.bool w1]) [] from ref10_Target_spec a0 a1 a2 a3 N _ h) [] n [] rfl hnd hlt (show 0 ≤ 0 from by decide) (show ∀ j ∈ ([] : List Nat), j < 0 from by decide) (by rfl) trivial (by rfl) trivial trivial rfl rfl rfl rfl rfl)

noncomputable def ref10_AimV (a0 a1 a2 a3 a4 : Int) : ref10_AimR → Value
 | .r0 w1 w2 => Value.agg #[vi a0, vi w1, vi w2, vi a3]
noncomputable def ref10_AimPo (a0 a1 a2 a3 a4 : Int) : ref10_AimR → List (Option AObj)
 | .r0 w1 w2 => []

theorem ref10_Aim_fx (a0 a1 a2 a3 a4 : Int) (N : Nat) : Fx Try.prog ext_Pp Try.f12 [] #[Value.agg #[vi a0, vi a1, vi a2, vi a3], vi a4] (ref10_AimV a0 a1 a2 a3 a4) (ref10_AimPo a0 a1 a2 a3 a4) (ref10_Aim a0 a1 a2 a3 a4 N) := by
 unfold ref10_Aim
 refine fx_ite (fun g0 => ?_) (fun g0 => ?_)
 ·
  exact fx_fin (r := (.r0 (a4) (a2) : ref10_AimR)) (fu := 4000) (orc := (orcw [(0, true), (1, false)] [] [] [] [])) (live := []) (u := Value.agg #[vi a0, vi a4, vi a2, vi a3]) (bl := []) (ob := [((a0 == (9 : Int)), false), ((a0 == (8 : Int)), true)]) (by kernel_rfl) (oF <| oT obs_nil) rfl (by decide) (by rfl) rr trivial
 ·
  refine fx_ite (fun g1 => ?_) (fun g1 => ?_)
  ·
   exact fx_fin (r := (.r0 (a1) (a4) : ref10_AimR)) (fu := 4000) (orc := (orcw [(0, false), (1, true)] [] [] [] [])) (live := []) (u := Value.agg #[vi a0, vi a1, vi a4, vi a3]) (bl := []) (ob := [((a0 == (9 : Int)), true), ((a0 == (8 : Int)), false)]) (by kernel_rfl) (oT <| oF obs_nil) rfl (by decide) (by rfl) rr trivial
  ·
   exact fx_fin (r := (.r0 (a1) (a2) : ref10_AimR)) (fu := 4000) (orc := (orcw [(0, false), (1, false)] [] [] [] [])) (live := []) (u := Value.agg #[vi a0, vi a1, vi a2, vi a3]) (bl := []) (ob := [((a0 == (9 : Int)), false), ((a0 == (8 : Int)), false)]) (by kernel_rfl) (oF <| oF obs_nil) rfl (by decide) (by rfl) rr trivial

theorem ref10_Aim_spec (a0 a1 a2 a3 a4 : Int) (N : Nat) (r : ref10_AimR) (h : ref10_Aim a0 a1 a2 a3 a4 N = some r) : LSpec Try.prog 12 #[Value.agg #[vi a0, vi a1, vi a2, vi a3], vi a4] [] (ref10_AimV a0 a1 a2 a3 a4 r) (ref10_AimPo a0 a1 a2 a3 a4 r) :=
 fx_spec fit_Pp Try.func12 (by kernel_rfl) (by kernel_rfl) (fun r => by cases r <;> exact le_far _ rfl) (ref10_Aim_fx a0 a1 a2 a3 a4 N) h

noncomputable def ref10_AimT0 (a0 a1 a2 a3 a4 w1 w2 : Int) (n : Nat) : Told := .call [] (Value.agg #[vi a0, vi w1, vi w2, vi a3]) [] 0
def ref10_AimP0 (A : Array Value) (a0 a1 a2 a3 a4 w1 w2 : Int) (n : Nat) : Prop := CallSpec Try.prog 12 A [] (Value.agg #[vi a0, vi w1, vi w2, vi a3]) [] n 0

theorem ref10_AimC0 (A : Array Value) (a0 a1 a2 a3 a4 w1 w2 : Int) (N : Nat) (h : ref10_Aim a0 a1 a2 a3 a4 N = some (.r0 w1 w2)) (n : Nat) (hA : A = #[Value.agg #[vi a0, vi a1, vi a2, vi a3], vi a4]) (hnd : ([] : List Nat).Nodup) (hlt : ∀ k ∈ ([] : List Nat), k < n) : ref10_AimP0 A a0 a1 a2 a3 a4 w1 w2  n :=
 cs_args hA (LSpec.callL (show LSpec Try.prog 12 #[Value.agg #[vi a0, vi a1, vi a2, vi a3], vi a4] [] (Value.agg #[vi a0, vi w1, vi w2, vi a3]) [] from ref10_Aim_spec a0 a1 a2 a3 a4 N _ h) [] n [] rfl hnd hlt (show 0 ≤ 0 from by decide) (show ∀ j ∈ ([] : List Nat), j < 0 from by decide) (by rfl) trivial (by rfl) trivial trivial rfl rfl rfl rfl rfl)

noncomputable def law11_ProgPartsV (o0 : Nat) (L1 : List R_iiii) (n2 n3 o4 : Nat) (L5 : List R_iiii) (n6 n7 : Nat) (O0 O1 : Obj) : law11_ProgPartsR → Value
 | .r0 w4 => Value.bool w4
noncomputable def law11_ProgPartsPo (o0 : Nat) (L1 : List R_iiii) (n2 n3 o4 : Nat) (L5 : List R_iiii) (n6 n7 : Nat) (O0 O1 : Obj) : law11_ProgPartsR → List (Option AObj)
 | .r0 w4 => [some (.ro O0), some (.ro O1)]

end Ev
end Go.Proofs.Ytahjcmhiifkniaa
