/- Records, and the program's functions as plain ones. -/
import Derived.Test.YtahjcmhiifkniaaFm
namespace Go.Proofs.Ytahjcmhiifkniaa
open Go.RowKit
namespace Ev
set_option linter.unusedVariables false
structure R_iiii where
  a0 : Int
  a1 : Int
  a2 : Int
  a3 : Int
def R_iiii.z : R_iiii := ⟨0, 0, 0, 0⟩
/-- gantlet/instr.Target -/
inductive instr_TargetR where
  | r0 (w0 : Int) (w1 : Bool)

def instr_Target (a0 : Int) (a1 : Int) (a2 : Int) (a3 : Int) (N : Nat) : Option instr_TargetR :=
  if a0 = (8 : Int) then
    some (.r0 (a1) (true) : instr_TargetR)
  else
  if a0 = (9 : Int) then
    some (.r0 (a2) (true) : instr_TargetR)
  else
  some (.r0 ((0 : Int)) (false) : instr_TargetR)

/-- gantlet/instr.kind -/
inductive instr_kindR where
  | r0
  | r1
  | r2
  | r3
  | r4
  | r5
  | r6
  | r7
  | r8
  | r9
  | r10
  | r11
  | r12
  | r13
  | r14
  | r15
  | r16
  | r17
  | r18
  | r19
  | r20

def instr_kind (a0 : Int) (N : Nat) : Option instr_kindR :=
  if a0 < (0 : Int) then
    some (.r0 : instr_kindR)
  else
  if (21 : Int) ≤ a0 then
    some (.r0 : instr_kindR)
  else
  if a0 = (0 : Int) then
    some (.r0 : instr_kindR)
  else
  if a0 = (1 : Int) then
    some (.r1 : instr_kindR)
  else
  if a0 = (2 : Int) then
    some (.r2 : instr_kindR)
  else
  if a0 = (3 : Int) then
    some (.r3 : instr_kindR)
  else
  if a0 = (4 : Int) then
    some (.r4 : instr_kindR)
  else
  if a0 = (5 : Int) then
    some (.r5 : instr_kindR)
  else
  if a0 = (6 : Int) then
    some (.r6 : instr_kindR)
  else
  if a0 = (7 : Int) then
    some (.r7 : instr_kindR)
  else
  if a0 = (8 : Int) then
    some (.r8 : instr_kindR)
  else
  if a0 = (9 : Int) then
    some (.r9 : instr_kindR)
  else
  if a0 = (10 : Int) then
    some (.r10 : instr_kindR)
  else
  if a0 = (11 : Int) then
    some (.r11 : instr_kindR)
  else
  if a0 = (12 : Int) then
    some (.r12 : instr_kindR)
  else
  if a0 = (13 : Int) then
    some (.r13 : instr_kindR)
  else
  if a0 = (14 : Int) then
    some (.r14 : instr_kindR)
  else
  if a0 = (15 : Int) then
    some (.r15 : instr_kindR)
  else
  if a0 = (16 : Int) then
    some (.r16 : instr_kindR)
  else
  if a0 = (17 : Int) then
    some (.r17 : instr_kindR)
  else
  if a0 = (18 : Int) then
    some (.r18 : instr_kindR)
  else
  if a0 = (19 : Int) then
    some (.r19 : instr_kindR)
  else
  some (.r20 : instr_kindR)

/-- (gantlet/instr.shape).fits -/
inductive instr_shape_fitsR where
  | r0 (w0 : Bool)

def instr_shape_fits (a0 : Int) (a1 : Int) (a2 : Int) (N : Nat) : Option instr_shape_fitsR :=
  if a0 = (1 : Int) then
    if (0 : Int) ≤ a1 then
      if a1 ≤ (7 : Int) then
        some (.r0 (true) : instr_shape_fitsR)
      else
      some (.r0 (false) : instr_shape_fitsR)
    else
    some (.r0 (false) : instr_shape_fitsR)
  else
  if a0 = (2 : Int) then
    if (0 : Int) ≤ a1 then
      if a1 ≤ (15 : Int) then
        some (.r0 (true) : instr_shape_fitsR)
      else
      some (.r0 (false) : instr_shape_fitsR)
    else
    some (.r0 (false) : instr_shape_fitsR)
  else
  if a0 = (3 : Int) then
    if (1 : Int) ≤ a1 then
      if a1 ≤ (16 : Int) then
        some (.r0 (true) : instr_shape_fitsR)
      else
      some (.r0 (false) : instr_shape_fitsR)
    else
    some (.r0 (false) : instr_shape_fitsR)
  else
  if a0 = (4 : Int) then
    if (0 : Int) ≤ a1 then
      if a1 ≤ (512 : Int) then
        some (.r0 (true) : instr_shape_fitsR)
      else
      some (.r0 (false) : instr_shape_fitsR)
    else
    some (.r0 (false) : instr_shape_fitsR)
  else
  if a0 = (5 : Int) then
    if (0 : Int) ≤ a2 then
      if a2 ≤ (64 : Int) then
        if (0 : Int) ≤ a1 then
          if a1 ≤ (IntKind.i64.wrap ((IntKind.i64.wrap ((1 : Int) * (2 ^ (a2).toNat : Int))) - (1 : Int))) then
            some (.r0 (true) : instr_shape_fitsR)
          else
          some (.r0 (false) : instr_shape_fitsR)
        else
        some (.r0 (false) : instr_shape_fitsR)
      else
      none
    else
    none
  else
  if a0 = (6 : Int) then
    if (-1099511627776 : Int) ≤ a1 then
      if a1 ≤ (1099511627776 : Int) then
        some (.r0 (true) : instr_shape_fitsR)
      else
      some (.r0 (false) : instr_shape_fitsR)
    else
    some (.r0 (false) : instr_shape_fitsR)
  else
  if (0 : Int) ≤ a1 then
    if a1 ≤ (0 : Int) then
      some (.r0 (true) : instr_shape_fitsR)
    else
    some (.r0 (false) : instr_shape_fitsR)
  else
  some (.r0 (false) : instr_shape_fitsR)

/-- gantlet/instr.Check -/
inductive instr_CheckR where
  | r0 (w0 : Int)

inductive instr_CheckX where
  | h1m0 (v1 : Nat) (v2 : Nat) (v3 : Nat)
  | h1m1 (v1 : Nat) (v2 : Nat) (v3 : Nat)
  | h1m2 (v1 : Nat) (v2 : Nat) (v3 : Nat)
  | h1m3 (v1 : Nat) (v2 : Nat) (v3 : Nat)

def instr_Check_h1m0 (a0 : Int) (a1 : Int) (a2 : Int) (a3 : Int) (N : Nat) (v1 : Nat) (v2 : Nat) (v3 : Nat) : Option (instr_CheckX ⊕ instr_CheckR) :=
  ((instr_shape_fits (((v1 : Nat) : Int)) (a1) ((0 : Int)) N).bind fun r => match r with
  | .r0 y0_0 =>
    if ¬ (y0_0 = true) then
      some (.inr (.r0 ((100 : Int)) : instr_CheckR))
    else
    some (.inl (.h1m1 (v1) (v2) (v3) : instr_CheckX))
  )

def instr_Check_h1m1 (a0 : Int) (a1 : Int) (a2 : Int) (a3 : Int) (N : Nat) (v1 : Nat) (v2 : Nat) (v3 : Nat) : Option (instr_CheckX ⊕ instr_CheckR) :=
  ((instr_shape_fits (((v2 : Nat) : Int)) (a2) (a1) N).bind fun r => match r with
  | .r0 y0_0 =>
    if ¬ (y0_0 = true) then
      some (.inr (.r0 ((100 : Int)) : instr_CheckR))
    else
    some (.inl (.h1m2 (v1) (v2) (v3) : instr_CheckX))
  )

def instr_Check_h1m2 (a0 : Int) (a1 : Int) (a2 : Int) (a3 : Int) (N : Nat) (v1 : Nat) (v2 : Nat) (v3 : Nat) : Option (instr_CheckX ⊕ instr_CheckR) :=
  ((instr_shape_fits (((v3 : Nat) : Int)) (a3) (a2) N).bind fun r => match r with
  | .r0 y0_0 =>
    if ¬ (y0_0 = true) then
      some (.inr (.r0 ((100 : Int)) : instr_CheckR))
    else
    some (.inl (.h1m3 (v1) (v2) (v3) : instr_CheckX))
  )

def instr_Check_h1m3 (a0 : Int) (a1 : Int) (a2 : Int) (a3 : Int) (N : Nat) (v1 : Nat) (v2 : Nat) (v3 : Nat) : Option (instr_CheckX ⊕ instr_CheckR) :=
  some (.inr (.r0 ((0 : Int)) : instr_CheckR))

def instr_CheckStep (a0 : Int) (a1 : Int) (a2 : Int) (a3 : Int) (N : Nat) : instr_CheckX → Option (instr_CheckX ⊕ instr_CheckR)
  | .h1m0 v1 v2 v3 => instr_Check_h1m0 a0 a1 a2 a3 N v1 v2 v3
  | .h1m1 v1 v2 v3 => instr_Check_h1m1 a0 a1 a2 a3 N v1 v2 v3
  | .h1m2 v1 v2 v3 => instr_Check_h1m2 a0 a1 a2 a3 N v1 v2 v3
  | .h1m3 v1 v2 v3 => instr_Check_h1m3 a0 a1 a2 a3 N v1 v2 v3

def instr_CheckIn (a0 : Int) (a1 : Int) (a2 : Int) (a3 : Int) (N : Nat) : Option (instr_CheckX ⊕ instr_CheckR) :=
  ((instr_kind (a0) N).bind fun r => match r with
  | .r0 =>
    some (.inr (.r0 ((100 : Int)) : instr_CheckR))
  | .r1 =>
    some (.inl (.h1m0 (1) (6) (0) : instr_CheckX))
  | .r2 =>
    some (.inl (.h1m0 (1) (0) (0) : instr_CheckX))
  | .r3 =>
    some (.inl (.h1m0 (1) (1) (0) : instr_CheckX))
  | .r4 =>
    some (.inl (.h1m0 (1) (1) (1) : instr_CheckX))
  | .r5 =>
    some (.inl (.h1m0 (1) (1) (1) : instr_CheckX))
  | .r6 =>
    some (.inl (.h1m0 (1) (1) (1) : instr_CheckX))
  | .r7 =>
    some (.inl (.h1m0 (1) (1) (1) : instr_CheckX))
  | .r8 =>
    some (.inl (.h1m0 (4) (0) (0) : instr_CheckX))
  | .r9 =>
    some (.inl (.h1m0 (1) (4) (0) : instr_CheckX))
  | .r10 =>
    some (.inl (.h1m0 (1) (0) (0) : instr_CheckX))
  | .r11 =>
    some (.inl (.h1m0 (1) (3) (5) : instr_CheckX))
  | .r12 =>
    some (.inl (.h1m0 (1) (0) (0) : instr_CheckX))
  | .r13 =>
    some (.inl (.h1m0 (1) (1) (2) : instr_CheckX))
  | .r14 =>
    some (.inl (.h1m0 (1) (2) (1) : instr_CheckX))
  | .r15 =>
    some (.inl (.h1m0 (0) (0) (0) : instr_CheckX))
  | .r16 =>
    some (.inl (.h1m0 (0) (0) (0) : instr_CheckX))
  | .r17 =>
    some (.inl (.h1m0 (0) (0) (0) : instr_CheckX))
  | .r18 =>
    some (.inl (.h1m0 (0) (0) (0) : instr_CheckX))
  | .r19 =>
    some (.inl (.h1m0 (1) (0) (0) : instr_CheckX))
  | .r20 =>
    some (.inl (.h1m0 (0) (0) (0) : instr_CheckX))
  )

def instr_Check (a0 : Int) (a1 : Int) (a2 : Int) (a3 : Int) (N : Nat) : Option instr_CheckR := goM (instr_CheckStep a0 a1 a2 a3 N) N (instr_CheckIn a0 a1 a2 a3 N)

/-- gantlet/instr.Aim -/
inductive instr_AimR where
  | r0 (w1 : Int) (w2 : Int)

def instr_Aim (a0 : Int) (a1 : Int) (a2 : Int) (a3 : Int) (a4 : Int) (N : Nat) : Option instr_AimR :=
  if a0 = (8 : Int) then
    some (.r0 (a4) (a2) : instr_AimR)
  else
  if a0 = (9 : Int) then
    some (.r0 (a1) (a4) : instr_AimR)
  else
  some (.r0 (a1) (a2) : instr_AimR)

/-- gantlet/prog.Link -/
inductive prog_LinkR where
  | r0 (w6 : Int)
  | r1 (w6 : List R_iiii)

inductive prog_LinkX where
  | h1m0 (v6 : Nat) (v8 : Nat)
  | h2m0 (v7 : Nat)
  | h2m1 (v6 : List R_iiii) (v8 : Nat)
  | h3m0 (v10 : Nat)
  | h3m1 (v6 : List R_iiii) (v9 : Nat) (v11 : Nat) (v15 : Nat)
  | h3m2 (v10 : Nat)
  | h3m3 (v10 : Nat)
  | h3m4 (v6 : List R_iiii) (v9 : Nat) (v11 : Nat) (v15 : Nat)
  | h3m5 (v6 : List R_iiii) (v9 : Nat) (v11 : Nat) (v15 : Nat)

def prog_Link_h1m0 (L1 : List R_iiii) (n2 : Nat) (n3 : Nat) (L5 : List R_iiii) (n6 : Nat) (n7 : Nat) (L9 : List R_iiii) (n10 : Nat) (n11 : Nat) (N : Nat) (v6 : Nat) (v8 : Nat) : Option (prog_LinkX ⊕ prog_LinkR) :=
  if ((v8 : Nat) : Int) < (3 : Int) then
    if ((v8 : Nat) : Int) = (0 : Int) then
      if (((v6 + n2) : Nat) : Int) ≤ (9223372036854775807 : Int) then
        some (.inl (.h1m0 ((v6 + n2)) ((v8 + 1)) : prog_LinkX))
      else
      none
    else
    if ((v8 : Nat) : Int) = (1 : Int) then
      if (((v6 + n6) : Nat) : Int) ≤ (9223372036854775807 : Int) then
        some (.inl (.h1m0 ((v6 + n6)) ((v8 + 1)) : prog_LinkX))
      else
      none
    else
    if (((v6 + n10) : Nat) : Int) ≤ (9223372036854775807 : Int) then
      some (.inl (.h1m0 ((v6 + n10)) ((v8 + 1)) : prog_LinkX))
    else
    none
  else
  if (512 : Int) < ((v6 : Nat) : Int) then
    some (.inr (.r0 ((3 : Int)) : prog_LinkR))
  else
  some (.inl (.h2m0 (0) : prog_LinkX))

def prog_Link_h2m0 (L1 : List R_iiii) (n2 : Nat) (n3 : Nat) (L5 : List R_iiii) (n6 : Nat) (n7 : Nat) (L9 : List R_iiii) (n10 : Nat) (n11 : Nat) (N : Nat) (v7 : Nat) : Option (prog_LinkX ⊕ prog_LinkR) :=
  if ((v7 : Nat) : Int) < (3 : Int) then
    if ((v7 : Nat) : Int) = (0 : Int) then
      some (.inl (.h3m0 (v7) : prog_LinkX))
    else
    if ((v7 : Nat) : Int) = (1 : Int) then
      some (.inl (.h3m2 (v7) : prog_LinkX))
    else
    some (.inl (.h3m3 (v7) : prog_LinkX))
  else
  some (.inr (.r0 ((0 : Int)) : prog_LinkR))

def prog_Link_h2m1 (L1 : List R_iiii) (n2 : Nat) (n3 : Nat) (L5 : List R_iiii) (n6 : Nat) (n7 : Nat) (L9 : List R_iiii) (n10 : Nat) (n11 : Nat) (N : Nat) (v6 : List R_iiii) (v8 : Nat) : Option (prog_LinkX ⊕ prog_LinkR) :=
  if ((v8 : Nat) : Int) < (3 : Int) then
    if ((v8 : Nat) : Int) = (0 : Int) then
      some (.inl (.h3m1 (v6) (v6.length) (v8) (0) : prog_LinkX))
    else
    if ((v8 : Nat) : Int) = (1 : Int) then
      some (.inl (.h3m4 (v6) (v6.length) (v8) (0) : prog_LinkX))
    else
    some (.inl (.h3m5 (v6) (v6.length) (v8) (0) : prog_LinkX))
  else
  some (.inr (.r1 (v6) : prog_LinkR))

def prog_Link_h3m0 (L1 : List R_iiii) (n2 : Nat) (n3 : Nat) (L5 : List R_iiii) (n6 : Nat) (n7 : Nat) (L9 : List R_iiii) (n10 : Nat) (n11 : Nat) (N : Nat) (v10 : Nat) : Option (prog_LinkX ⊕ prog_LinkR) :=
  if (0 : Int) < ((n2 : Nat) : Int) then
    if 0 < L1.length then
      ((instr_Target ((L1.getD 0 R_iiii.z).a0) ((L1.getD 0 R_iiii.z).a1) ((L1.getD 0 R_iiii.z).a2) ((L1.getD 0 R_iiii.z).a3) N).bind fun r => match r with
      | .r0 y2_0 y2_1 =>
        if y2_1 = true then
          ((instr_Check ((L1.getD 0 R_iiii.z).a0) ((L1.getD 0 R_iiii.z).a1) ((L1.getD 0 R_iiii.z).a2) ((L1.getD 0 R_iiii.z).a3) N).bind fun r => match r with
          | .r0 y4_0 =>
            if ¬ (y4_0 = (0 : Int)) then
              some (.inr (.r0 ((110 : Int)) : prog_LinkR))
            else
            if ((n2 : Nat) : Int) < y2_0 then
              some (.inr (.r0 ((110 : Int)) : prog_LinkR))
            else
            ((instr_Aim ((L1.getD 0 R_iiii.z).a0) ((L1.getD 0 R_iiii.z).a1) ((L1.getD 0 R_iiii.z).a2) ((L1.getD 0 R_iiii.z).a3) ((IntKind.i64.wrap ((0 : Int) + y2_0))) N).bind fun r => match r with
            | .r0 y7_0 y7_1 =>
              some (.inl (.h3m1 (([(⟨(L1.getD 0 R_iiii.z).a0, y7_0, y7_1, (L1.getD 0 R_iiii.z).a3⟩ : R_iiii)] : List R_iiii)) (0) (v10) (1) : prog_LinkX))
            )
          )
        else
        ((instr_Check ((L1.getD 0 R_iiii.z).a0) ((L1.getD 0 R_iiii.z).a1) ((L1.getD 0 R_iiii.z).a2) ((L1.getD 0 R_iiii.z).a3) N).bind fun r => match r with
        | .r0 y4_0 =>
          if ¬ (y4_0 = (0 : Int)) then
            some (.inr (.r0 ((110 : Int)) : prog_LinkR))
          else
          ((instr_Aim ((L1.getD 0 R_iiii.z).a0) ((L1.getD 0 R_iiii.z).a1) ((L1.getD 0 R_iiii.z).a2) ((L1.getD 0 R_iiii.z).a3) ((IntKind.i64.wrap ((0 : Int) + y2_0))) N).bind fun r => match r with
          | .r0 y6_0 y6_1 =>
            some (.inl (.h3m1 (([(⟨(L1.getD 0 R_iiii.z).a0, y6_0, y6_1, (L1.getD 0 R_iiii.z).a3⟩ : R_iiii)] : List R_iiii)) (0) (v10) (1) : prog_LinkX))
          )
        )
      )
    else
    none
  else
  if (((v10 + 1) : Nat) : Int) ≤ (9223372036854775807 : Int) then
    some (.inl (.h2m0 ((v10 + 1)) : prog_LinkX))
  else
  none

def prog_Link_h3m1 (L1 : List R_iiii) (n2 : Nat) (n3 : Nat) (L5 : List R_iiii) (n6 : Nat) (n7 : Nat) (L9 : List R_iiii) (n10 : Nat) (n11 : Nat) (N : Nat) (v6 : List R_iiii) (v9 : Nat) (v11 : Nat) (v15 : Nat) : Option (prog_LinkX ⊕ prog_LinkR) :=
  if ((v15 : Nat) : Int) < ((n2 : Nat) : Int) then
    if v15 < L1.length then
      ((instr_Target ((L1.getD v15 R_iiii.z).a0) ((L1.getD v15 R_iiii.z).a1) ((L1.getD v15 R_iiii.z).a2) ((L1.getD v15 R_iiii.z).a3) N).bind fun r => match r with
      | .r0 y2_0 y2_1 =>
        if y2_1 = true then
          ((instr_Check ((L1.getD v15 R_iiii.z).a0) ((L1.getD v15 R_iiii.z).a1) ((L1.getD v15 R_iiii.z).a2) ((L1.getD v15 R_iiii.z).a3) N).bind fun r => match r with
          | .r0 y4_0 =>
            if ¬ (y4_0 = (0 : Int)) then
              some (.inr (.r0 ((110 : Int)) : prog_LinkR))
            else
            if ((n2 : Nat) : Int) < y2_0 then
              some (.inr (.r0 ((110 : Int)) : prog_LinkR))
            else
            ((instr_Aim ((L1.getD v15 R_iiii.z).a0) ((L1.getD v15 R_iiii.z).a1) ((L1.getD v15 R_iiii.z).a2) ((L1.getD v15 R_iiii.z).a3) ((IntKind.i64.wrap (((v9 : Nat) : Int) + y2_0))) N).bind fun r => match r with
            | .r0 y7_0 y7_1 =>
              if v6.length ≤ 100000 then
                if (((v15 + 1) : Nat) : Int) ≤ (9223372036854775807 : Int) then
                  some (.inl (.h3m1 ((v6 ++ ([(⟨(L1.getD v15 R_iiii.z).a0, y7_0, y7_1, (L1.getD v15 R_iiii.z).a3⟩ : R_iiii)] : List R_iiii))) (v9) (v11) ((v15 + 1)) : prog_LinkX))
                else
                none
              else
              none
            )
          )
        else
        ((instr_Check ((L1.getD v15 R_iiii.z).a0) ((L1.getD v15 R_iiii.z).a1) ((L1.getD v15 R_iiii.z).a2) ((L1.getD v15 R_iiii.z).a3) N).bind fun r => match r with
        | .r0 y4_0 =>
          if ¬ (y4_0 = (0 : Int)) then
            some (.inr (.r0 ((110 : Int)) : prog_LinkR))
          else
          ((instr_Aim ((L1.getD v15 R_iiii.z).a0) ((L1.getD v15 R_iiii.z).a1) ((L1.getD v15 R_iiii.z).a2) ((L1.getD v15 R_iiii.z).a3) ((IntKind.i64.wrap (((v9 : Nat) : Int) + y2_0))) N).bind fun r => match r with
          | .r0 y6_0 y6_1 =>
            if v6.length ≤ 100000 then
              if (((v15 + 1) : Nat) : Int) ≤ (9223372036854775807 : Int) then
                some (.inl (.h3m1 ((v6 ++ ([(⟨(L1.getD v15 R_iiii.z).a0, y6_0, y6_1, (L1.getD v15 R_iiii.z).a3⟩ : R_iiii)] : List R_iiii))) (v9) (v11) ((v15 + 1)) : prog_LinkX))
              else
              none
            else
            none
          )
        )
      )
    else
    none
  else
  if (((v11 + 1) : Nat) : Int) ≤ (9223372036854775807 : Int) then
    some (.inl (.h2m1 (v6) ((v11 + 1)) : prog_LinkX))
  else
  none

def prog_Link_h3m2 (L1 : List R_iiii) (n2 : Nat) (n3 : Nat) (L5 : List R_iiii) (n6 : Nat) (n7 : Nat) (L9 : List R_iiii) (n10 : Nat) (n11 : Nat) (N : Nat) (v10 : Nat) : Option (prog_LinkX ⊕ prog_LinkR) :=
  if (0 : Int) < ((n6 : Nat) : Int) then
    if 0 < L5.length then
      ((instr_Target ((L5.getD 0 R_iiii.z).a0) ((L5.getD 0 R_iiii.z).a1) ((L5.getD 0 R_iiii.z).a2) ((L5.getD 0 R_iiii.z).a3) N).bind fun r => match r with
      | .r0 y2_0 y2_1 =>
        if y2_1 = true then
          ((instr_Check ((L5.getD 0 R_iiii.z).a0) ((L5.getD 0 R_iiii.z).a1) ((L5.getD 0 R_iiii.z).a2) ((L5.getD 0 R_iiii.z).a3) N).bind fun r => match r with
          | .r0 y4_0 =>
            if ¬ (y4_0 = (0 : Int)) then
              some (.inr (.r0 ((110 : Int)) : prog_LinkR))
            else
            if ((n6 : Nat) : Int) < y2_0 then
              some (.inr (.r0 ((110 : Int)) : prog_LinkR))
            else
            ((instr_Aim ((L5.getD 0 R_iiii.z).a0) ((L5.getD 0 R_iiii.z).a1) ((L5.getD 0 R_iiii.z).a2) ((L5.getD 0 R_iiii.z).a3) ((IntKind.i64.wrap ((0 : Int) + y2_0))) N).bind fun r => match r with
            | .r0 y7_0 y7_1 =>
              some (.inl (.h3m4 (([(⟨(L5.getD 0 R_iiii.z).a0, y7_0, y7_1, (L5.getD 0 R_iiii.z).a3⟩ : R_iiii)] : List R_iiii)) (0) (v10) (1) : prog_LinkX))
            )
          )
        else
        ((instr_Check ((L5.getD 0 R_iiii.z).a0) ((L5.getD 0 R_iiii.z).a1) ((L5.getD 0 R_iiii.z).a2) ((L5.getD 0 R_iiii.z).a3) N).bind fun r => match r with
        | .r0 y4_0 =>
          if ¬ (y4_0 = (0 : Int)) then
            some (.inr (.r0 ((110 : Int)) : prog_LinkR))
          else
          ((instr_Aim ((L5.getD 0 R_iiii.z).a0) ((L5.getD 0 R_iiii.z).a1) ((L5.getD 0 R_iiii.z).a2) ((L5.getD 0 R_iiii.z).a3) ((IntKind.i64.wrap ((0 : Int) + y2_0))) N).bind fun r => match r with
          | .r0 y6_0 y6_1 =>
            some (.inl (.h3m4 (([(⟨(L5.getD 0 R_iiii.z).a0, y6_0, y6_1, (L5.getD 0 R_iiii.z).a3⟩ : R_iiii)] : List R_iiii)) (0) (v10) (1) : prog_LinkX))
          )
        )
      )
    else
    none
  else
  if (((v10 + 1) : Nat) : Int) ≤ (9223372036854775807 : Int) then
    some (.inl (.h2m0 ((v10 + 1)) : prog_LinkX))
  else
  none

def prog_Link_h3m3 (L1 : List R_iiii) (n2 : Nat) (n3 : Nat) (L5 : List R_iiii) (n6 : Nat) (n7 : Nat) (L9 : List R_iiii) (n10 : Nat) (n11 : Nat) (N : Nat) (v10 : Nat) : Option (prog_LinkX ⊕ prog_LinkR) :=
  if (0 : Int) < ((n10 : Nat) : Int) then
    if 0 < L9.length then
      ((instr_Target ((L9.getD 0 R_iiii.z).a0) ((L9.getD 0 R_iiii.z).a1) ((L9.getD 0 R_iiii.z).a2) ((L9.getD 0 R_iiii.z).a3) N).bind fun r => match r with
      | .r0 y2_0 y2_1 =>
        if y2_1 = true then
          ((instr_Check ((L9.getD 0 R_iiii.z).a0) ((L9.getD 0 R_iiii.z).a1) ((L9.getD 0 R_iiii.z).a2) ((L9.getD 0 R_iiii.z).a3) N).bind fun r => match r with
          | .r0 y4_0 =>
            if ¬ (y4_0 = (0 : Int)) then
              some (.inr (.r0 ((110 : Int)) : prog_LinkR))
            else
            if ((n10 : Nat) : Int) < y2_0 then
              some (.inr (.r0 ((110 : Int)) : prog_LinkR))
            else
            ((instr_Aim ((L9.getD 0 R_iiii.z).a0) ((L9.getD 0 R_iiii.z).a1) ((L9.getD 0 R_iiii.z).a2) ((L9.getD 0 R_iiii.z).a3) ((IntKind.i64.wrap ((0 : Int) + y2_0))) N).bind fun r => match r with
            | .r0 y7_0 y7_1 =>
              some (.inl (.h3m5 (([(⟨(L9.getD 0 R_iiii.z).a0, y7_0, y7_1, (L9.getD 0 R_iiii.z).a3⟩ : R_iiii)] : List R_iiii)) (0) (v10) (1) : prog_LinkX))
            )
          )
        else
        ((instr_Check ((L9.getD 0 R_iiii.z).a0) ((L9.getD 0 R_iiii.z).a1) ((L9.getD 0 R_iiii.z).a2) ((L9.getD 0 R_iiii.z).a3) N).bind fun r => match r with
        | .r0 y4_0 =>
          if ¬ (y4_0 = (0 : Int)) then
            some (.inr (.r0 ((110 : Int)) : prog_LinkR))
          else
          ((instr_Aim ((L9.getD 0 R_iiii.z).a0) ((L9.getD 0 R_iiii.z).a1) ((L9.getD 0 R_iiii.z).a2) ((L9.getD 0 R_iiii.z).a3) ((IntKind.i64.wrap ((0 : Int) + y2_0))) N).bind fun r => match r with
          | .r0 y6_0 y6_1 =>
            some (.inl (.h3m5 (([(⟨(L9.getD 0 R_iiii.z).a0, y6_0, y6_1, (L9.getD 0 R_iiii.z).a3⟩ : R_iiii)] : List R_iiii)) (0) (v10) (1) : prog_LinkX))
          )
        )
      )
    else
    none
  else
  if (((v10 + 1) : Nat) : Int) ≤ (9223372036854775807 : Int) then
    some (.inl (.h2m0 ((v10 + 1)) : prog_LinkX))
  else
  none

def prog_Link_h3m4 (L1 : List R_iiii) (n2 : Nat) (n3 : Nat) (L5 : List R_iiii) (n6 : Nat) (n7 : Nat) (L9 : List R_iiii) (n10 : Nat) (n11 : Nat) (N : Nat) (v6 : List R_iiii) (v9 : Nat) (v11 : Nat) (v15 : Nat) : Option (prog_LinkX ⊕ prog_LinkR) :=
  if ((v15 : Nat) : Int) < ((n6 : Nat) : Int) then
    if v15 < L5.length then
      ((instr_Target ((L5.getD v15 R_iiii.z).a0) ((L5.getD v15 R_iiii.z).a1) ((L5.getD v15 R_iiii.z).a2) ((L5.getD v15 R_iiii.z).a3) N).bind fun r => match r with
      | .r0 y2_0 y2_1 =>
        if y2_1 = true then
          ((instr_Check ((L5.getD v15 R_iiii.z).a0) ((L5.getD v15 R_iiii.z).a1) ((L5.getD v15 R_iiii.z).a2) ((L5.getD v15 R_iiii.z).a3) N).bind fun r => match r with
          | .r0 y4_0 =>
            if ¬ (y4_0 = (0 : Int)) then
              some (.inr (.r0 ((110 : Int)) : prog_LinkR))
            else
            if ((n6 : Nat) : Int) < y2_0 then
              some (.inr (.r0 ((110 : Int)) : prog_LinkR))
            else
            ((instr_Aim ((L5.getD v15 R_iiii.z).a0) ((L5.getD v15 R_iiii.z).a1) ((L5.getD v15 R_iiii.z).a2) ((L5.getD v15 R_iiii.z).a3) ((IntKind.i64.wrap (((v9 : Nat) : Int) + y2_0))) N).bind fun r => match r with
            | .r0 y7_0 y7_1 =>
              if v6.length ≤ 100000 then
                if (((v15 + 1) : Nat) : Int) ≤ (9223372036854775807 : Int) then
                  some (.inl (.h3m4 ((v6 ++ ([(⟨(L5.getD v15 R_iiii.z).a0, y7_0, y7_1, (L5.getD v15 R_iiii.z).a3⟩ : R_iiii)] : List R_iiii))) (v9) (v11) ((v15 + 1)) : prog_LinkX))
                else
                none
              else
              none
            )
          )
        else
        ((instr_Check ((L5.getD v15 R_iiii.z).a0) ((L5.getD v15 R_iiii.z).a1) ((L5.getD v15 R_iiii.z).a2) ((L5.getD v15 R_iiii.z).a3) N).bind fun r => match r with
        | .r0 y4_0 =>
          if ¬ (y4_0 = (0 : Int)) then
            some (.inr (.r0 ((110 : Int)) : prog_LinkR))
          else
          ((instr_Aim ((L5.getD v15 R_iiii.z).a0) ((L5.getD v15 R_iiii.z).a1) ((L5.getD v15 R_iiii.z).a2) ((L5.getD v15 R_iiii.z).a3) ((IntKind.i64.wrap (((v9 : Nat) : Int) + y2_0))) N).bind fun r => match r with
          | .r0 y6_0 y6_1 =>
            if v6.length ≤ 100000 then
              if (((v15 + 1) : Nat) : Int) ≤ (9223372036854775807 : Int) then
                some (.inl (.h3m4 ((v6 ++ ([(⟨(L5.getD v15 R_iiii.z).a0, y6_0, y6_1, (L5.getD v15 R_iiii.z).a3⟩ : R_iiii)] : List R_iiii))) (v9) (v11) ((v15 + 1)) : prog_LinkX))
              else
              none
            else
            none
          )
        )
      )
    else
    none
  else
  if (((v11 + 1) : Nat) : Int) ≤ (9223372036854775807 : Int) then
    some (.inl (.h2m1 (v6) ((v11 + 1)) : prog_LinkX))
  else
  none

def prog_Link_h3m5 (L1 : List R_iiii) (n2 : Nat) (n3 : Nat) (L5 : List R_iiii) (n6 : Nat) (n7 : Nat) (L9 : List R_iiii) (n10 : Nat) (n11 : Nat) (N : Nat) (v6 : List R_iiii) (v9 : Nat) (v11 : Nat) (v15 : Nat) : Option (prog_LinkX ⊕ prog_LinkR) :=
  if ((v15 : Nat) : Int) < ((n10 : Nat) : Int) then
    if v15 < L9.length then
      ((instr_Target ((L9.getD v15 R_iiii.z).a0) ((L9.getD v15 R_iiii.z).a1) ((L9.getD v15 R_iiii.z).a2) ((L9.getD v15 R_iiii.z).a3) N).bind fun r => match r with
      | .r0 y2_0 y2_1 =>
        if y2_1 = true then
          ((instr_Check ((L9.getD v15 R_iiii.z).a0) ((L9.getD v15 R_iiii.z).a1) ((L9.getD v15 R_iiii.z).a2) ((L9.getD v15 R_iiii.z).a3) N).bind fun r => match r with
          | .r0 y4_0 =>
            if ¬ (y4_0 = (0 : Int)) then
              some (.inr (.r0 ((110 : Int)) : prog_LinkR))
            else
            if ((n10 : Nat) : Int) < y2_0 then
              some (.inr (.r0 ((110 : Int)) : prog_LinkR))
            else
            ((instr_Aim ((L9.getD v15 R_iiii.z).a0) ((L9.getD v15 R_iiii.z).a1) ((L9.getD v15 R_iiii.z).a2) ((L9.getD v15 R_iiii.z).a3) ((IntKind.i64.wrap (((v9 : Nat) : Int) + y2_0))) N).bind fun r => match r with
            | .r0 y7_0 y7_1 =>
              if v6.length ≤ 100000 then
                if (((v15 + 1) : Nat) : Int) ≤ (9223372036854775807 : Int) then
                  some (.inl (.h3m5 ((v6 ++ ([(⟨(L9.getD v15 R_iiii.z).a0, y7_0, y7_1, (L9.getD v15 R_iiii.z).a3⟩ : R_iiii)] : List R_iiii))) (v9) (v11) ((v15 + 1)) : prog_LinkX))
                else
                none
              else
              none
            )
          )
        else
        ((instr_Check ((L9.getD v15 R_iiii.z).a0) ((L9.getD v15 R_iiii.z).a1) ((L9.getD v15 R_iiii.z).a2) ((L9.getD v15 R_iiii.z).a3) N).bind fun r => match r with
        | .r0 y4_0 =>
          if ¬ (y4_0 = (0 : Int)) then
            some (.inr (.r0 ((110 : Int)) : prog_LinkR))
          else
          ((instr_Aim ((L9.getD v15 R_iiii.z).a0) ((L9.getD v15 R_iiii.z).a1) ((L9.getD v15 R_iiii.z).a2) ((L9.getD v15 R_iiii.z).a3) ((IntKind.i64.wrap (((v9 : Nat) : Int) + y2_0))) N).bind fun r => match r with
          | .r0 y6_0 y6_1 =>
            if v6.length ≤ 100000 then
              if (((v15 + 1) : Nat) : Int) ≤ (9223372036854775807 : Int) then
                some (.inl (.h3m5 ((v6 ++ ([(⟨(L9.getD v15 R_iiii.z).a0, y6_0, y6_1, (L9.getD v15 R_iiii.z).a3⟩ : R_iiii)] : List R_iiii))) (v9) (v11) ((v15 + 1)) : prog_LinkX))
              else
              none
            else
            none
          )
        )
      )
    else
    none
  else
  if (((v11 + 1) : Nat) : Int) ≤ (9223372036854775807 : Int) then
    some (.inl (.h2m1 (v6) ((v11 + 1)) : prog_LinkX))
  else
  none

def prog_LinkStep (L1 : List R_iiii) (n2 : Nat) (n3 : Nat) (L5 : List R_iiii) (n6 : Nat) (n7 : Nat) (L9 : List R_iiii) (n10 : Nat) (n11 : Nat) (N : Nat) : prog_LinkX → Option (prog_LinkX ⊕ prog_LinkR)
  | .h1m0 v6 v8 => prog_Link_h1m0 L1 n2 n3 L5 n6 n7 L9 n10 n11 N v6 v8
  | .h2m0 v7 => prog_Link_h2m0 L1 n2 n3 L5 n6 n7 L9 n10 n11 N v7
  | .h2m1 v6 v8 => prog_Link_h2m1 L1 n2 n3 L5 n6 n7 L9 n10 n11 N v6 v8
  | .h3m0 v10 => prog_Link_h3m0 L1 n2 n3 L5 n6 n7 L9 n10 n11 N v10
  | .h3m1 v6 v9 v11 v15 => prog_Link_h3m1 L1 n2 n3 L5 n6 n7 L9 n10 n11 N v6 v9 v11 v15
  | .h3m2 v10 => prog_Link_h3m2 L1 n2 n3 L5 n6 n7 L9 n10 n11 N v10
  | .h3m3 v10 => prog_Link_h3m3 L1 n2 n3 L5 n6 n7 L9 n10 n11 N v10
  | .h3m4 v6 v9 v11 v15 => prog_Link_h3m4 L1 n2 n3 L5 n6 n7 L9 n10 n11 N v6 v9 v11 v15
  | .h3m5 v6 v9 v11 v15 => prog_Link_h3m5 L1 n2 n3 L5 n6 n7 L9 n10 n11 N v6 v9 v11 v15

def prog_LinkIn (L1 : List R_iiii) (n2 : Nat) (n3 : Nat) (L5 : List R_iiii) (n6 : Nat) (n7 : Nat) (L9 : List R_iiii) (n10 : Nat) (n11 : Nat) (N : Nat) : Option (prog_LinkX ⊕ prog_LinkR) :=
  some (.inl (.h1m0 (0) (0) : prog_LinkX))

def prog_Link (L1 : List R_iiii) (n2 : Nat) (n3 : Nat) (L5 : List R_iiii) (n6 : Nat) (n7 : Nat) (L9 : List R_iiii) (n10 : Nat) (n11 : Nat) (N : Nat) : Option prog_LinkR := goM (prog_LinkStep L1 n2 n3 L5 n6 n7 L9 n10 n11 N) N (prog_LinkIn L1 n2 n3 L5 n6 n7 L9 n10 n11 N)

/-- gantlet/gantletref10.Has -/
inductive ref10_HasR where
  | r0 (w0 : Int) (w1 : Int) (w2 : Int) (w3 : Bool)

def ref10_Has (a0 : Int) (N : Nat) : Option ref10_HasR :=
  if a0 = (1 : Int) then
    some (.r0 ((1 : Int)) ((2 : Int)) ((0 : Int)) (true) : ref10_HasR)
  else
  if a0 = (2 : Int) then
    some (.r0 ((1 : Int)) ((0 : Int)) ((0 : Int)) (true) : ref10_HasR)
  else
  if a0 = (10 : Int) then
    some (.r0 ((1 : Int)) ((0 : Int)) ((0 : Int)) (true) : ref10_HasR)
  else
  if a0 = (12 : Int) then
    some (.r0 ((1 : Int)) ((0 : Int)) ((0 : Int)) (true) : ref10_HasR)
  else
  if a0 = (19 : Int) then
    some (.r0 ((1 : Int)) ((0 : Int)) ((0 : Int)) (true) : ref10_HasR)
  else
  if a0 = (3 : Int) then
    some (.r0 ((1 : Int)) ((1 : Int)) ((0 : Int)) (true) : ref10_HasR)
  else
  if a0 = (4 : Int) then
    some (.r0 ((1 : Int)) ((1 : Int)) ((1 : Int)) (true) : ref10_HasR)
  else
  if a0 = (5 : Int) then
    some (.r0 ((1 : Int)) ((1 : Int)) ((1 : Int)) (true) : ref10_HasR)
  else
  if a0 = (6 : Int) then
    some (.r0 ((1 : Int)) ((1 : Int)) ((1 : Int)) (true) : ref10_HasR)
  else
  if a0 = (7 : Int) then
    some (.r0 ((1 : Int)) ((1 : Int)) ((1 : Int)) (true) : ref10_HasR)
  else
  if a0 = (8 : Int) then
    some (.r0 ((3 : Int)) ((0 : Int)) ((0 : Int)) (true) : ref10_HasR)
  else
  if a0 = (9 : Int) then
    some (.r0 ((1 : Int)) ((3 : Int)) ((0 : Int)) (true) : ref10_HasR)
  else
  if a0 = (11 : Int) then
    some (.r0 ((1 : Int)) ((5 : Int)) ((6 : Int)) (true) : ref10_HasR)
  else
  if a0 = (13 : Int) then
    some (.r0 ((1 : Int)) ((1 : Int)) ((4 : Int)) (true) : ref10_HasR)
  else
  if a0 = (14 : Int) then
    some (.r0 ((1 : Int)) ((4 : Int)) ((1 : Int)) (true) : ref10_HasR)
  else
  if a0 = (15 : Int) then
    some (.r0 ((0 : Int)) ((0 : Int)) ((0 : Int)) (true) : ref10_HasR)
  else
  if a0 = (16 : Int) then
    some (.r0 ((0 : Int)) ((0 : Int)) ((0 : Int)) (true) : ref10_HasR)
  else
  if a0 = (17 : Int) then
    some (.r0 ((0 : Int)) ((0 : Int)) ((0 : Int)) (true) : ref10_HasR)
  else
  if a0 = (18 : Int) then
    some (.r0 ((0 : Int)) ((0 : Int)) ((0 : Int)) (true) : ref10_HasR)
  else
  if a0 = (20 : Int) then
    some (.r0 ((0 : Int)) ((0 : Int)) ((0 : Int)) (true) : ref10_HasR)
  else
  some (.r0 ((0 : Int)) ((0 : Int)) ((0 : Int)) (false) : ref10_HasR)

/-- gantlet/gantletref10.fits -/
inductive ref10_fitsR where
  | r0 (w0 : Bool)

def ref10_fits (a0 : Int) (a1 : Int) (a2 : Int) (N : Nat) : Option ref10_fitsR :=
  if a0 = (1 : Int) then
    if (0 : Int) ≤ a1 then
      if a1 < (8 : Int) then
        some (.r0 (true) : ref10_fitsR)
      else
      some (.r0 (false) : ref10_fitsR)
    else
    some (.r0 (false) : ref10_fitsR)
  else
  if a0 = (2 : Int) then
    if (-1099511627776 : Int) ≤ a1 then
      if a1 ≤ (1099511627776 : Int) then
        some (.r0 (true) : ref10_fitsR)
      else
      some (.r0 (false) : ref10_fitsR)
    else
    some (.r0 (false) : ref10_fitsR)
  else
  if a0 = (3 : Int) then
    if (0 : Int) ≤ a1 then
      if a1 ≤ (512 : Int) then
        some (.r0 (true) : ref10_fitsR)
      else
      some (.r0 (false) : ref10_fitsR)
    else
    some (.r0 (false) : ref10_fitsR)
  else
  if a0 = (4 : Int) then
    if (0 : Int) ≤ a1 then
      if a1 < (16 : Int) then
        some (.r0 (true) : ref10_fitsR)
      else
      some (.r0 (false) : ref10_fitsR)
    else
    some (.r0 (false) : ref10_fitsR)
  else
  if a0 = (5 : Int) then
    if (1 : Int) ≤ a1 then
      if a1 ≤ (16 : Int) then
        some (.r0 (true) : ref10_fitsR)
      else
      some (.r0 (false) : ref10_fitsR)
    else
    some (.r0 (false) : ref10_fitsR)
  else
  if a0 = (6 : Int) then
    if (1 : Int) ≤ a2 then
      if a2 ≤ (16 : Int) then
        if (0 : Int) ≤ a1 then
          if a1 < (IntKind.i64.wrap ((1 : Int) * (2 ^ (a2).toNat : Int))) then
            some (.r0 (true) : ref10_fitsR)
          else
          some (.r0 (false) : ref10_fitsR)
        else
        some (.r0 (false) : ref10_fitsR)
      else
      some (.r0 (false) : ref10_fitsR)
    else
    some (.r0 (false) : ref10_fitsR)
  else
  if a1 = (0 : Int) then
    some (.r0 (true) : ref10_fitsR)
  else
  some (.r0 (false) : ref10_fitsR)

/-- gantlet/gantletref10.Is -/
inductive ref10_IsR where
  | r0 (w0 : Bool)

def ref10_Is (a0 : Int) (a1 : Int) (a2 : Int) (a3 : Int) (N : Nat) : Option ref10_IsR :=
  ((ref10_Has (a0) N).bind fun r => match r with
  | .r0 y0_0 y0_1 y0_2 y0_3 =>
    if y0_3 = true then
      ((ref10_fits (y0_0) (a1) ((0 : Int)) N).bind fun r => match r with
      | .r0 y2_0 =>
        if y2_0 = true then
          ((ref10_fits (y0_1) (a2) ((0 : Int)) N).bind fun r => match r with
          | .r0 y4_0 =>
            if y4_0 = true then
              ((ref10_fits (y0_2) (a3) (a2) N).bind fun r => match r with
              | .r0 y6_0 =>
                if y6_0 = true then
                  some (.r0 (true) : ref10_IsR)
                else
                some (.r0 (false) : ref10_IsR)
              )
            else
            some (.r0 (false) : ref10_IsR)
          )
        else
        some (.r0 (false) : ref10_IsR)
      )
    else
    some (.r0 (false) : ref10_IsR)
  )

/-- gantlet/gantletref10.Target -/
inductive ref10_TargetR where
  | r0 (w0 : Int) (w1 : Bool)

def ref10_Target (a0 : Int) (a1 : Int) (a2 : Int) (a3 : Int) (N : Nat) : Option ref10_TargetR :=
  if a0 = (8 : Int) then
    some (.r0 (a1) (true) : ref10_TargetR)
  else
  if a0 = (9 : Int) then
    some (.r0 (a2) (true) : ref10_TargetR)
  else
  some (.r0 ((0 : Int)) (false) : ref10_TargetR)

/-- gantlet/gantletref10.Aim -/
inductive ref10_AimR where
  | r0 (w1 : Int) (w2 : Int)

def ref10_Aim (a0 : Int) (a1 : Int) (a2 : Int) (a3 : Int) (a4 : Int) (N : Nat) : Option ref10_AimR :=
  if a0 = (8 : Int) then
    some (.r0 (a4) (a2) : ref10_AimR)
  else
  if a0 = (9 : Int) then
    some (.r0 (a1) (a4) : ref10_AimR)
  else
  some (.r0 (a1) (a2) : ref10_AimR)

/-- gantlet/gantletref11.Link -/
inductive ref11_LinkR where
  | r0 (w6 : Int)
  | r1 (w6 : List R_iiii)

inductive ref11_LinkX where
  | h1m0 (v6 : Nat) (v7 : Nat)
  | h2m0 (v6 : Nat)
  | h2m1 (v6 : List R_iiii) (v7 : Nat)
  | h3m0 (v6 : Nat)
  | h3m1 (v6 : List R_iiii) (v7 : Nat) (v8 : Nat) (v9 : Nat)

def ref11_Link_h1m0 (L1 : List R_iiii) (n2 : Nat) (n3 : Nat) (L5 : List R_iiii) (n6 : Nat) (n7 : Nat) (L9 : List R_iiii) (n10 : Nat) (n11 : Nat) (N : Nat) (v6 : Nat) (v7 : Nat) : Option (ref11_LinkX ⊕ ref11_LinkR) :=
  if ((v7 : Nat) : Int) < (3 : Int) then
    if ((v7 : Nat) : Int) = (0 : Int) then
      if (((v6 + n2) : Nat) : Int) ≤ (9223372036854775807 : Int) then
        if (512 : Int) < (((v6 + n2) : Nat) : Int) then
          some (.inr (.r0 ((3 : Int)) : ref11_LinkR))
        else
        some (.inl (.h1m0 ((v6 + n2)) ((v7 + 1)) : ref11_LinkX))
      else
      none
    else
    if ((v7 : Nat) : Int) = (1 : Int) then
      if (((v6 + n6) : Nat) : Int) ≤ (9223372036854775807 : Int) then
        if (512 : Int) < (((v6 + n6) : Nat) : Int) then
          some (.inr (.r0 ((3 : Int)) : ref11_LinkR))
        else
        some (.inl (.h1m0 ((v6 + n6)) ((v7 + 1)) : ref11_LinkX))
      else
      none
    else
    if (((v6 + n10) : Nat) : Int) ≤ (9223372036854775807 : Int) then
      if (512 : Int) < (((v6 + n10) : Nat) : Int) then
        some (.inr (.r0 ((3 : Int)) : ref11_LinkR))
      else
      some (.inl (.h1m0 ((v6 + n10)) ((v7 + 1)) : ref11_LinkX))
    else
    none
  else
  some (.inl (.h2m0 (0) : ref11_LinkX))

def ref11_Link_h2m0 (L1 : List R_iiii) (n2 : Nat) (n3 : Nat) (L5 : List R_iiii) (n6 : Nat) (n7 : Nat) (L9 : List R_iiii) (n10 : Nat) (n11 : Nat) (N : Nat) (v6 : Nat) : Option (ref11_LinkX ⊕ ref11_LinkR) :=
  if ((v6 : Nat) : Int) < (3 : Int) then
    some (.inl (.h3m0 (v6) : ref11_LinkX))
  else
  some (.inr (.r0 ((0 : Int)) : ref11_LinkR))

def ref11_Link_h2m1 (L1 : List R_iiii) (n2 : Nat) (n3 : Nat) (L5 : List R_iiii) (n6 : Nat) (n7 : Nat) (L9 : List R_iiii) (n10 : Nat) (n11 : Nat) (N : Nat) (v6 : List R_iiii) (v7 : Nat) : Option (ref11_LinkX ⊕ ref11_LinkR) :=
  if ((v7 : Nat) : Int) < (3 : Int) then
    some (.inl (.h3m1 (v6) (v7) (v6.length) (0) : ref11_LinkX))
  else
  some (.inr (.r1 (v6) : ref11_LinkR))

def ref11_Link_h3m0 (L1 : List R_iiii) (n2 : Nat) (n3 : Nat) (L5 : List R_iiii) (n6 : Nat) (n7 : Nat) (L9 : List R_iiii) (n10 : Nat) (n11 : Nat) (N : Nat) (v6 : Nat) : Option (ref11_LinkX ⊕ ref11_LinkR) :=
  if ((v6 : Nat) : Int) = (0 : Int) then
    if (0 : Int) < ((n2 : Nat) : Int) then
      if 0 < L1.length then
        ((ref10_Is ((L1.getD 0 R_iiii.z).a0) ((L1.getD 0 R_iiii.z).a1) ((L1.getD 0 R_iiii.z).a2) ((L1.getD 0 R_iiii.z).a3) N).bind fun r => match r with
        | .r0 y3_0 =>
          if ¬ (y3_0 = true) then
            some (.inr (.r0 ((110 : Int)) : ref11_LinkR))
          else
          ((ref10_Target ((L1.getD 0 R_iiii.z).a0) ((L1.getD 0 R_iiii.z).a1) ((L1.getD 0 R_iiii.z).a2) ((L1.getD 0 R_iiii.z).a3) N).bind fun r => match r with
          | .r0 y5_0 y5_1 =>
            if y5_1 = true then
              if ((n2 : Nat) : Int) < y5_0 then
                some (.inr (.r0 ((110 : Int)) : ref11_LinkR))
              else
              ((ref10_Aim ((L1.getD 0 R_iiii.z).a0) ((L1.getD 0 R_iiii.z).a1) ((L1.getD 0 R_iiii.z).a2) ((L1.getD 0 R_iiii.z).a3) ((IntKind.i64.wrap (y5_0 + (0 : Int)))) N).bind fun r => match r with
              | .r0 y8_0 y8_1 =>
                some (.inl (.h3m1 (([(⟨(L1.getD 0 R_iiii.z).a0, y8_0, y8_1, (L1.getD 0 R_iiii.z).a3⟩ : R_iiii)] : List R_iiii)) (v6) (0) (1) : ref11_LinkX))
              )
            else
            some (.inl (.h3m1 (([(⟨(L1.getD 0 R_iiii.z).a0, (L1.getD 0 R_iiii.z).a1, (L1.getD 0 R_iiii.z).a2, (L1.getD 0 R_iiii.z).a3⟩ : R_iiii)] : List R_iiii)) (v6) (0) (1) : ref11_LinkX))
          )
        )
      else
      none
    else
    some (.inl (.h2m0 ((v6 + 1)) : ref11_LinkX))
  else
  if ((v6 : Nat) : Int) = (1 : Int) then
    if (0 : Int) < ((n6 : Nat) : Int) then
      if 0 < L5.length then
        ((ref10_Is ((L5.getD 0 R_iiii.z).a0) ((L5.getD 0 R_iiii.z).a1) ((L5.getD 0 R_iiii.z).a2) ((L5.getD 0 R_iiii.z).a3) N).bind fun r => match r with
        | .r0 y4_0 =>
          if ¬ (y4_0 = true) then
            some (.inr (.r0 ((110 : Int)) : ref11_LinkR))
          else
          ((ref10_Target ((L5.getD 0 R_iiii.z).a0) ((L5.getD 0 R_iiii.z).a1) ((L5.getD 0 R_iiii.z).a2) ((L5.getD 0 R_iiii.z).a3) N).bind fun r => match r with
          | .r0 y6_0 y6_1 =>
            if y6_1 = true then
              if ((n6 : Nat) : Int) < y6_0 then
                some (.inr (.r0 ((110 : Int)) : ref11_LinkR))
              else
              ((ref10_Aim ((L5.getD 0 R_iiii.z).a0) ((L5.getD 0 R_iiii.z).a1) ((L5.getD 0 R_iiii.z).a2) ((L5.getD 0 R_iiii.z).a3) ((IntKind.i64.wrap (y6_0 + (0 : Int)))) N).bind fun r => match r with
              | .r0 y9_0 y9_1 =>
                some (.inl (.h3m1 (([(⟨(L5.getD 0 R_iiii.z).a0, y9_0, y9_1, (L5.getD 0 R_iiii.z).a3⟩ : R_iiii)] : List R_iiii)) (v6) (0) (1) : ref11_LinkX))
              )
            else
            some (.inl (.h3m1 (([(⟨(L5.getD 0 R_iiii.z).a0, (L5.getD 0 R_iiii.z).a1, (L5.getD 0 R_iiii.z).a2, (L5.getD 0 R_iiii.z).a3⟩ : R_iiii)] : List R_iiii)) (v6) (0) (1) : ref11_LinkX))
          )
        )
      else
      none
    else
    some (.inl (.h2m0 ((v6 + 1)) : ref11_LinkX))
  else
  if ((v6 : Nat) : Int) = (2 : Int) then
    if (0 : Int) < ((n10 : Nat) : Int) then
      if 0 < L9.length then
        ((ref10_Is ((L9.getD 0 R_iiii.z).a0) ((L9.getD 0 R_iiii.z).a1) ((L9.getD 0 R_iiii.z).a2) ((L9.getD 0 R_iiii.z).a3) N).bind fun r => match r with
        | .r0 y5_0 =>
          if ¬ (y5_0 = true) then
            some (.inr (.r0 ((110 : Int)) : ref11_LinkR))
          else
          ((ref10_Target ((L9.getD 0 R_iiii.z).a0) ((L9.getD 0 R_iiii.z).a1) ((L9.getD 0 R_iiii.z).a2) ((L9.getD 0 R_iiii.z).a3) N).bind fun r => match r with
          | .r0 y7_0 y7_1 =>
            if y7_1 = true then
              if ((n10 : Nat) : Int) < y7_0 then
                some (.inr (.r0 ((110 : Int)) : ref11_LinkR))
              else
              ((ref10_Aim ((L9.getD 0 R_iiii.z).a0) ((L9.getD 0 R_iiii.z).a1) ((L9.getD 0 R_iiii.z).a2) ((L9.getD 0 R_iiii.z).a3) ((IntKind.i64.wrap (y7_0 + (0 : Int)))) N).bind fun r => match r with
              | .r0 y10_0 y10_1 =>
                some (.inl (.h3m1 (([(⟨(L9.getD 0 R_iiii.z).a0, y10_0, y10_1, (L9.getD 0 R_iiii.z).a3⟩ : R_iiii)] : List R_iiii)) (v6) (0) (1) : ref11_LinkX))
              )
            else
            some (.inl (.h3m1 (([(⟨(L9.getD 0 R_iiii.z).a0, (L9.getD 0 R_iiii.z).a1, (L9.getD 0 R_iiii.z).a2, (L9.getD 0 R_iiii.z).a3⟩ : R_iiii)] : List R_iiii)) (v6) (0) (1) : ref11_LinkX))
          )
        )
      else
      none
    else
    some (.inl (.h2m0 ((v6 + 1)) : ref11_LinkX))
  else
  none

def ref11_Link_h3m1 (L1 : List R_iiii) (n2 : Nat) (n3 : Nat) (L5 : List R_iiii) (n6 : Nat) (n7 : Nat) (L9 : List R_iiii) (n10 : Nat) (n11 : Nat) (N : Nat) (v6 : List R_iiii) (v7 : Nat) (v8 : Nat) (v9 : Nat) : Option (ref11_LinkX ⊕ ref11_LinkR) :=
  if ((v7 : Nat) : Int) = (0 : Int) then
    if ((v9 : Nat) : Int) < ((n2 : Nat) : Int) then
      if v9 < L1.length then
        ((ref10_Is ((L1.getD v9 R_iiii.z).a0) ((L1.getD v9 R_iiii.z).a1) ((L1.getD v9 R_iiii.z).a2) ((L1.getD v9 R_iiii.z).a3) N).bind fun r => match r with
        | .r0 y3_0 =>
          if ¬ (y3_0 = true) then
            some (.inr (.r0 ((110 : Int)) : ref11_LinkR))
          else
          ((ref10_Target ((L1.getD v9 R_iiii.z).a0) ((L1.getD v9 R_iiii.z).a1) ((L1.getD v9 R_iiii.z).a2) ((L1.getD v9 R_iiii.z).a3) N).bind fun r => match r with
          | .r0 y5_0 y5_1 =>
            if y5_1 = true then
              if ((n2 : Nat) : Int) < y5_0 then
                some (.inr (.r0 ((110 : Int)) : ref11_LinkR))
              else
              ((ref10_Aim ((L1.getD v9 R_iiii.z).a0) ((L1.getD v9 R_iiii.z).a1) ((L1.getD v9 R_iiii.z).a2) ((L1.getD v9 R_iiii.z).a3) ((IntKind.i64.wrap (y5_0 + ((v8 : Nat) : Int)))) N).bind fun r => match r with
              | .r0 y8_0 y8_1 =>
                if v6.length ≤ 100000 then
                  if (((v9 + 1) : Nat) : Int) ≤ (9223372036854775807 : Int) then
                    some (.inl (.h3m1 ((v6 ++ ([(⟨(L1.getD v9 R_iiii.z).a0, y8_0, y8_1, (L1.getD v9 R_iiii.z).a3⟩ : R_iiii)] : List R_iiii))) (v7) (v8) ((v9 + 1)) : ref11_LinkX))
                  else
                  none
                else
                none
              )
            else
            if v6.length ≤ 100000 then
              if (((v9 + 1) : Nat) : Int) ≤ (9223372036854775807 : Int) then
                some (.inl (.h3m1 ((v6 ++ ([(⟨(L1.getD v9 R_iiii.z).a0, (L1.getD v9 R_iiii.z).a1, (L1.getD v9 R_iiii.z).a2, (L1.getD v9 R_iiii.z).a3⟩ : R_iiii)] : List R_iiii))) (v7) (v8) ((v9 + 1)) : ref11_LinkX))
              else
              none
            else
            none
          )
        )
      else
      none
    else
    some (.inl (.h2m1 (v6) ((v7 + 1)) : ref11_LinkX))
  else
  if ((v7 : Nat) : Int) = (1 : Int) then
    if ((v9 : Nat) : Int) < ((n6 : Nat) : Int) then
      if v9 < L5.length then
        ((ref10_Is ((L5.getD v9 R_iiii.z).a0) ((L5.getD v9 R_iiii.z).a1) ((L5.getD v9 R_iiii.z).a2) ((L5.getD v9 R_iiii.z).a3) N).bind fun r => match r with
        | .r0 y4_0 =>
          if ¬ (y4_0 = true) then
            some (.inr (.r0 ((110 : Int)) : ref11_LinkR))
          else
          ((ref10_Target ((L5.getD v9 R_iiii.z).a0) ((L5.getD v9 R_iiii.z).a1) ((L5.getD v9 R_iiii.z).a2) ((L5.getD v9 R_iiii.z).a3) N).bind fun r => match r with
          | .r0 y6_0 y6_1 =>
            if y6_1 = true then
              if ((n6 : Nat) : Int) < y6_0 then
                some (.inr (.r0 ((110 : Int)) : ref11_LinkR))
              else
              ((ref10_Aim ((L5.getD v9 R_iiii.z).a0) ((L5.getD v9 R_iiii.z).a1) ((L5.getD v9 R_iiii.z).a2) ((L5.getD v9 R_iiii.z).a3) ((IntKind.i64.wrap (y6_0 + ((v8 : Nat) : Int)))) N).bind fun r => match r with
              | .r0 y9_0 y9_1 =>
                if v6.length ≤ 100000 then
                  if (((v9 + 1) : Nat) : Int) ≤ (9223372036854775807 : Int) then
                    some (.inl (.h3m1 ((v6 ++ ([(⟨(L5.getD v9 R_iiii.z).a0, y9_0, y9_1, (L5.getD v9 R_iiii.z).a3⟩ : R_iiii)] : List R_iiii))) (v7) (v8) ((v9 + 1)) : ref11_LinkX))
                  else
                  none
                else
                none
              )
            else
            if v6.length ≤ 100000 then
              if (((v9 + 1) : Nat) : Int) ≤ (9223372036854775807 : Int) then
                some (.inl (.h3m1 ((v6 ++ ([(⟨(L5.getD v9 R_iiii.z).a0, (L5.getD v9 R_iiii.z).a1, (L5.getD v9 R_iiii.z).a2, (L5.getD v9 R_iiii.z).a3⟩ : R_iiii)] : List R_iiii))) (v7) (v8) ((v9 + 1)) : ref11_LinkX))
              else
              none
            else
            none
          )
        )
      else
      none
    else
    some (.inl (.h2m1 (v6) ((v7 + 1)) : ref11_LinkX))
  else
  if ((v7 : Nat) : Int) = (2 : Int) then
    if ((v9 : Nat) : Int) < ((n10 : Nat) : Int) then
      if v9 < L9.length then
        ((ref10_Is ((L9.getD v9 R_iiii.z).a0) ((L9.getD v9 R_iiii.z).a1) ((L9.getD v9 R_iiii.z).a2) ((L9.getD v9 R_iiii.z).a3) N).bind fun r => match r with
        | .r0 y5_0 =>
          if ¬ (y5_0 = true) then
            some (.inr (.r0 ((110 : Int)) : ref11_LinkR))
          else
          ((ref10_Target ((L9.getD v9 R_iiii.z).a0) ((L9.getD v9 R_iiii.z).a1) ((L9.getD v9 R_iiii.z).a2) ((L9.getD v9 R_iiii.z).a3) N).bind fun r => match r with
          | .r0 y7_0 y7_1 =>
            if y7_1 = true then
              if ((n10 : Nat) : Int) < y7_0 then
                some (.inr (.r0 ((110 : Int)) : ref11_LinkR))
              else
              ((ref10_Aim ((L9.getD v9 R_iiii.z).a0) ((L9.getD v9 R_iiii.z).a1) ((L9.getD v9 R_iiii.z).a2) ((L9.getD v9 R_iiii.z).a3) ((IntKind.i64.wrap (y7_0 + ((v8 : Nat) : Int)))) N).bind fun r => match r with
              | .r0 y10_0 y10_1 =>
                if v6.length ≤ 100000 then
                  if (((v9 + 1) : Nat) : Int) ≤ (9223372036854775807 : Int) then
                    some (.inl (.h3m1 ((v6 ++ ([(⟨(L9.getD v9 R_iiii.z).a0, y10_0, y10_1, (L9.getD v9 R_iiii.z).a3⟩ : R_iiii)] : List R_iiii))) (v7) (v8) ((v9 + 1)) : ref11_LinkX))
                  else
                  none
                else
                none
              )
            else
            if v6.length ≤ 100000 then
              if (((v9 + 1) : Nat) : Int) ≤ (9223372036854775807 : Int) then
                some (.inl (.h3m1 ((v6 ++ ([(⟨(L9.getD v9 R_iiii.z).a0, (L9.getD v9 R_iiii.z).a1, (L9.getD v9 R_iiii.z).a2, (L9.getD v9 R_iiii.z).a3⟩ : R_iiii)] : List R_iiii))) (v7) (v8) ((v9 + 1)) : ref11_LinkX))
              else
              none
            else
            none
          )
        )
      else
      none
    else
    some (.inl (.h2m1 (v6) ((v7 + 1)) : ref11_LinkX))
  else
  none

def ref11_LinkStep (L1 : List R_iiii) (n2 : Nat) (n3 : Nat) (L5 : List R_iiii) (n6 : Nat) (n7 : Nat) (L9 : List R_iiii) (n10 : Nat) (n11 : Nat) (N : Nat) : ref11_LinkX → Option (ref11_LinkX ⊕ ref11_LinkR)
  | .h1m0 v6 v7 => ref11_Link_h1m0 L1 n2 n3 L5 n6 n7 L9 n10 n11 N v6 v7
  | .h2m0 v6 => ref11_Link_h2m0 L1 n2 n3 L5 n6 n7 L9 n10 n11 N v6
  | .h2m1 v6 v7 => ref11_Link_h2m1 L1 n2 n3 L5 n6 n7 L9 n10 n11 N v6 v7
  | .h3m0 v6 => ref11_Link_h3m0 L1 n2 n3 L5 n6 n7 L9 n10 n11 N v6
  | .h3m1 v6 v7 v8 v9 => ref11_Link_h3m1 L1 n2 n3 L5 n6 n7 L9 n10 n11 N v6 v7 v8 v9

def ref11_LinkIn (L1 : List R_iiii) (n2 : Nat) (n3 : Nat) (L5 : List R_iiii) (n6 : Nat) (n7 : Nat) (L9 : List R_iiii) (n10 : Nat) (n11 : Nat) (N : Nat) : Option (ref11_LinkX ⊕ ref11_LinkR) :=
  some (.inl (.h1m0 (0) (0) : ref11_LinkX))

def ref11_Link (L1 : List R_iiii) (n2 : Nat) (n3 : Nat) (L5 : List R_iiii) (n6 : Nat) (n7 : Nat) (L9 : List R_iiii) (n10 : Nat) (n11 : Nat) (N : Nat) : Option ref11_LinkR := goM (ref11_LinkStep L1 n2 n3 L5 n6 n7 L9 n10 n11 N) N (ref11_LinkIn L1 n2 n3 L5 n6 n7 L9 n10 n11 N)

/-- gantlet/prog.Link -/
inductive prog_Link_2R where
  | r0

inductive prog_Link_2X where
  | h1m0
  | h2m0

def prog_Link_2_h1m0  (N : Nat) : Option (prog_Link_2X ⊕ prog_Link_2R) :=
  some (.inl (.h2m0 : prog_Link_2X))

def prog_Link_2_h2m0  (N : Nat) : Option (prog_Link_2X ⊕ prog_Link_2R) :=
  some (.inr (.r0 : prog_Link_2R))

def prog_Link_2Step  (N : Nat) : prog_Link_2X → Option (prog_Link_2X ⊕ prog_Link_2R)
  | .h1m0 => prog_Link_2_h1m0  N
  | .h2m0 => prog_Link_2_h2m0  N

def prog_Link_2In  (N : Nat) : Option (prog_Link_2X ⊕ prog_Link_2R) :=
  some (.inl (.h1m0 : prog_Link_2X))

def prog_Link_2  (N : Nat) : Option prog_Link_2R := goM (prog_Link_2Step  N) N (prog_Link_2In  N)

/-- gantlet/gantletref11.Same -/
inductive ref11_SameR where
  | r0

inductive ref11_SameX where
  | h1m0

def ref11_Same_h1m0  (N : Nat) : Option (ref11_SameX ⊕ ref11_SameR) :=
  some (.inr (.r0 : ref11_SameR))

def ref11_SameStep  (N : Nat) : ref11_SameX → Option (ref11_SameX ⊕ ref11_SameR)
  | .h1m0 => ref11_Same_h1m0  N

def ref11_SameIn  (N : Nat) : Option (ref11_SameX ⊕ ref11_SameR) :=
  some (.inl (.h1m0 : ref11_SameX))

def ref11_Same  (N : Nat) : Option ref11_SameR := goM (ref11_SameStep  N) N (ref11_SameIn  N)

/-- gantlet/prog.Same -/
inductive prog_SameR where
  | r0 (w4 : Bool)

inductive prog_SameX where
  | h1m0 (v9 : Nat)

def prog_Same_h1m0 (L1 : List R_iiii) (n2 : Nat) (n3 : Nat) (L5 : List R_iiii) (n6 : Nat) (n7 : Nat) (N : Nat) (v9 : Nat) : Option (prog_SameX ⊕ prog_SameR) :=
  if ((v9 : Nat) : Int) < ((n2 : Nat) : Int) then
    if v9 < L1.length then
      if v9 < n6 then
        if v9 < L5.length then
          if ¬ (((L1.getD v9 R_iiii.z).a0 = (L5.getD v9 R_iiii.z).a0 ∧ (L1.getD v9 R_iiii.z).a1 = (L5.getD v9 R_iiii.z).a1 ∧ (L1.getD v9 R_iiii.z).a2 = (L5.getD v9 R_iiii.z).a2 ∧ (L1.getD v9 R_iiii.z).a3 = (L5.getD v9 R_iiii.z).a3)) then
            some (.inr (.r0 (false) : prog_SameR))
          else
          if (((v9 + 1) : Nat) : Int) ≤ (9223372036854775807 : Int) then
            some (.inl (.h1m0 ((v9 + 1)) : prog_SameX))
          else
          none
        else
        none
      else
      none
    else
    none
  else
  some (.inr (.r0 (true) : prog_SameR))

def prog_SameStep (L1 : List R_iiii) (n2 : Nat) (n3 : Nat) (L5 : List R_iiii) (n6 : Nat) (n7 : Nat) (N : Nat) : prog_SameX → Option (prog_SameX ⊕ prog_SameR)
  | .h1m0 v9 => prog_Same_h1m0 L1 n2 n3 L5 n6 n7 N v9

def prog_SameIn (L1 : List R_iiii) (n2 : Nat) (n3 : Nat) (L5 : List R_iiii) (n6 : Nat) (n7 : Nat) (N : Nat) : Option (prog_SameX ⊕ prog_SameR) :=
  if ¬ (((n2 : Nat) : Int) = ((n6 : Nat) : Int)) then
    some (.inr (.r0 (false) : prog_SameR))
  else
  some (.inl (.h1m0 (0) : prog_SameX))

def prog_Same (L1 : List R_iiii) (n2 : Nat) (n3 : Nat) (L5 : List R_iiii) (n6 : Nat) (n7 : Nat) (N : Nat) : Option prog_SameR := goM (prog_SameStep L1 n2 n3 L5 n6 n7 N) N (prog_SameIn L1 n2 n3 L5 n6 n7 N)

/-- gantlet/gantletref11.Same -/
inductive ref11_Same_2R where
  | r0 (w4 : Bool)

inductive ref11_Same_2X where
  | h1m0 (v8 : Nat)

def ref11_Same_2_h1m0 (L1 : List R_iiii) (n2 : Nat) (n3 : Nat) (L5 : List R_iiii) (n6 : Nat) (n7 : Nat) (N : Nat) (v8 : Nat) : Option (ref11_Same_2X ⊕ ref11_Same_2R) :=
  if ((v8 : Nat) : Int) < ((n2 : Nat) : Int) then
    if v8 < L1.length then
      if v8 < n6 then
        if v8 < L5.length then
          if ¬ (((L1.getD v8 R_iiii.z).a0 = (L5.getD v8 R_iiii.z).a0 ∧ (L1.getD v8 R_iiii.z).a1 = (L5.getD v8 R_iiii.z).a1 ∧ (L1.getD v8 R_iiii.z).a2 = (L5.getD v8 R_iiii.z).a2 ∧ (L1.getD v8 R_iiii.z).a3 = (L5.getD v8 R_iiii.z).a3)) then
            some (.inr (.r0 (false) : ref11_Same_2R))
          else
          if (((v8 + 1) : Nat) : Int) ≤ (9223372036854775807 : Int) then
            some (.inl (.h1m0 ((v8 + 1)) : ref11_Same_2X))
          else
          none
        else
        none
      else
      none
    else
    none
  else
  some (.inr (.r0 (true) : ref11_Same_2R))

def ref11_Same_2Step (L1 : List R_iiii) (n2 : Nat) (n3 : Nat) (L5 : List R_iiii) (n6 : Nat) (n7 : Nat) (N : Nat) : ref11_Same_2X → Option (ref11_Same_2X ⊕ ref11_Same_2R)
  | .h1m0 v8 => ref11_Same_2_h1m0 L1 n2 n3 L5 n6 n7 N v8

def ref11_Same_2In (L1 : List R_iiii) (n2 : Nat) (n3 : Nat) (L5 : List R_iiii) (n6 : Nat) (n7 : Nat) (N : Nat) : Option (ref11_Same_2X ⊕ ref11_Same_2R) :=
  if ¬ (((n2 : Nat) : Int) = ((n6 : Nat) : Int)) then
    some (.inr (.r0 (false) : ref11_Same_2R))
  else
  some (.inl (.h1m0 (0) : ref11_Same_2X))

def ref11_Same_2 (L1 : List R_iiii) (n2 : Nat) (n3 : Nat) (L5 : List R_iiii) (n6 : Nat) (n7 : Nat) (N : Nat) : Option ref11_Same_2R := goM (ref11_Same_2Step L1 n2 n3 L5 n6 n7 N) N (ref11_Same_2In L1 n2 n3 L5 n6 n7 N)

/-- gantlet/prog.Same -/
inductive prog_Same_2R where
  | r0 (w2 : Bool)

inductive prog_Same_2X where
  | h1m0 (v7 : Nat)

def prog_Same_2_h1m0 (L1 : List R_iiii) (n2 : Nat) (n3 : Nat) (n4 : Nat) (n5 : Nat) (N : Nat) (v7 : Nat) : Option (prog_Same_2X ⊕ prog_Same_2R) :=
  if ((v7 : Nat) : Int) < ((n2 : Nat) : Int) then
    if v7 < L1.length then
      if v7 < n4 then
        if (((v7 + 1) : Nat) : Int) ≤ (9223372036854775807 : Int) then
          some (.inl (.h1m0 ((v7 + 1)) : prog_Same_2X))
        else
        none
      else
      none
    else
    none
  else
  some (.inr (.r0 (true) : prog_Same_2R))

def prog_Same_2Step (L1 : List R_iiii) (n2 : Nat) (n3 : Nat) (n4 : Nat) (n5 : Nat) (N : Nat) : prog_Same_2X → Option (prog_Same_2X ⊕ prog_Same_2R)
  | .h1m0 v7 => prog_Same_2_h1m0 L1 n2 n3 n4 n5 N v7

def prog_Same_2In (L1 : List R_iiii) (n2 : Nat) (n3 : Nat) (n4 : Nat) (n5 : Nat) (N : Nat) : Option (prog_Same_2X ⊕ prog_Same_2R) :=
  if ¬ (((n2 : Nat) : Int) = ((n4 : Nat) : Int)) then
    some (.inr (.r0 (false) : prog_Same_2R))
  else
  some (.inl (.h1m0 (0) : prog_Same_2X))

def prog_Same_2 (L1 : List R_iiii) (n2 : Nat) (n3 : Nat) (n4 : Nat) (n5 : Nat) (N : Nat) : Option prog_Same_2R := goM (prog_Same_2Step L1 n2 n3 n4 n5 N) N (prog_Same_2In L1 n2 n3 n4 n5 N)

/-- gantlet/gantletref11.Same -/
inductive ref11_Same_3R where
  | r0 (w1 : Bool)

inductive ref11_Same_3X where
  | h1m0

def ref11_Same_3_h1m0 (L0 : List R_iiii) (N : Nat) : Option (ref11_Same_3X ⊕ ref11_Same_3R) :=
  some (.inr (.r0 (true) : ref11_Same_3R))

def ref11_Same_3Step (L0 : List R_iiii) (N : Nat) : ref11_Same_3X → Option (ref11_Same_3X ⊕ ref11_Same_3R)
  | .h1m0 => ref11_Same_3_h1m0 L0 N

def ref11_Same_3In (L0 : List R_iiii) (N : Nat) : Option (ref11_Same_3X ⊕ ref11_Same_3R) :=
  if ¬ ((0 : Int) = ((L0.length : Nat) : Int)) then
    some (.inr (.r0 (false) : ref11_Same_3R))
  else
  some (.inl (.h1m0 : ref11_Same_3X))

def ref11_Same_3 (L0 : List R_iiii) (N : Nat) : Option ref11_Same_3R := goM (ref11_Same_3Step L0 N) N (ref11_Same_3In L0 N)

/-- gantlet/gantletref11.Same -/
inductive ref11_Same_4R where
  | r0 (w1 : Bool)

inductive ref11_Same_4X where
  | h1m0

def ref11_Same_4_h1m0 (L0 : List R_iiii) (N : Nat) : Option (ref11_Same_4X ⊕ ref11_Same_4R) :=
  if (0 : Int) < ((L0.length : Nat) : Int) then
    none
  else
  some (.inr (.r0 (true) : ref11_Same_4R))

def ref11_Same_4Step (L0 : List R_iiii) (N : Nat) : ref11_Same_4X → Option (ref11_Same_4X ⊕ ref11_Same_4R)
  | .h1m0 => ref11_Same_4_h1m0 L0 N

def ref11_Same_4In (L0 : List R_iiii) (N : Nat) : Option (ref11_Same_4X ⊕ ref11_Same_4R) :=
  if ¬ (((L0.length : Nat) : Int) = (0 : Int)) then
    some (.inr (.r0 (false) : ref11_Same_4R))
  else
  some (.inl (.h1m0 : ref11_Same_4X))

def ref11_Same_4 (L0 : List R_iiii) (N : Nat) : Option ref11_Same_4R := goM (ref11_Same_4Step L0 N) N (ref11_Same_4In L0 N)

/-- gantlet/gantletref11.Same -/
inductive ref11_Same_5R where
  | r0 (w2 : Bool)

inductive ref11_Same_5X where
  | h1m0 (v2 : Nat)

def ref11_Same_5_h1m0 (L0 : List R_iiii) (L1 : List R_iiii) (N : Nat) (v2 : Nat) : Option (ref11_Same_5X ⊕ ref11_Same_5R) :=
  if ((v2 : Nat) : Int) < ((L0.length : Nat) : Int) then
    if v2 < L1.length then
      if ¬ (((L0.getD v2 R_iiii.z).a0 = (L1.getD v2 R_iiii.z).a0 ∧ (L0.getD v2 R_iiii.z).a1 = (L1.getD v2 R_iiii.z).a1 ∧ (L0.getD v2 R_iiii.z).a2 = (L1.getD v2 R_iiii.z).a2 ∧ (L0.getD v2 R_iiii.z).a3 = (L1.getD v2 R_iiii.z).a3)) then
        some (.inr (.r0 (false) : ref11_Same_5R))
      else
      if (((v2 + 1) : Nat) : Int) ≤ (9223372036854775807 : Int) then
        some (.inl (.h1m0 ((v2 + 1)) : ref11_Same_5X))
      else
      none
    else
    none
  else
  some (.inr (.r0 (true) : ref11_Same_5R))

def ref11_Same_5Step (L0 : List R_iiii) (L1 : List R_iiii) (N : Nat) : ref11_Same_5X → Option (ref11_Same_5X ⊕ ref11_Same_5R)
  | .h1m0 v2 => ref11_Same_5_h1m0 L0 L1 N v2

def ref11_Same_5In (L0 : List R_iiii) (L1 : List R_iiii) (N : Nat) : Option (ref11_Same_5X ⊕ ref11_Same_5R) :=
  if ¬ (((L0.length : Nat) : Int) = ((L1.length : Nat) : Int)) then
    some (.inr (.r0 (false) : ref11_Same_5R))
  else
  some (.inl (.h1m0 (0) : ref11_Same_5X))

def ref11_Same_5 (L0 : List R_iiii) (L1 : List R_iiii) (N : Nat) : Option ref11_Same_5R := goM (ref11_Same_5Step L0 L1 N) N (ref11_Same_5In L0 L1 N)

/-- gantlet/gantletlaw11.ProgLinks -/
inductive law11_ProgLinksR where
  | r0 (w6 : Bool)

def law11_ProgLinks (L1 : List R_iiii) (n2 : Nat) (n3 : Nat) (L5 : List R_iiii) (n6 : Nat) (n7 : Nat) (L9 : List R_iiii) (n10 : Nat) (n11 : Nat) (N : Nat) : Option law11_ProgLinksR :=
  if (if (520 : Int) < ((n2 : Nat) : Int) then (520 : Int) else ((n2 : Nat) : Int)) ≤ ((n3 : Nat) : Int) then
    if (if (520 : Int) < ((n6 : Nat) : Int) then (520 : Int) else ((n6 : Nat) : Int)) ≤ ((n7 : Nat) : Int) then
      if (if (520 : Int) < ((n10 : Nat) : Int) then (520 : Int) else ((n10 : Nat) : Int)) ≤ ((n11 : Nat) : Int) then
        ((prog_Link (L1) ((((if (520 : Int) < ((n2 : Nat) : Int) then (520 : Int) else ((n2 : Nat) : Int))).toNat - 0)) ((n3 - 0)) (L5) ((((if (520 : Int) < ((n6 : Nat) : Int) then (520 : Int) else ((n6 : Nat) : Int))).toNat - 0)) ((n7 - 0)) (L9) ((((if (520 : Int) < ((n10 : Nat) : Int) then (520 : Int) else ((n10 : Nat) : Int))).toNat - 0)) ((n11 - 0)) N).bind fun r => match r with
        | .r0 y3_0 =>
          ((ref11_Link (L1) ((((if (520 : Int) < ((n2 : Nat) : Int) then (520 : Int) else ((n2 : Nat) : Int))).toNat - 0)) ((n3 - 0)) (L5) ((((if (520 : Int) < ((n6 : Nat) : Int) then (520 : Int) else ((n6 : Nat) : Int))).toNat - 0)) ((n7 - 0)) (L9) ((((if (520 : Int) < ((n10 : Nat) : Int) then (520 : Int) else ((n10 : Nat) : Int))).toNat - 0)) ((n11 - 0)) N).bind fun r => match r with
          | .r0 y4_0 =>
            ((prog_Link_2 N).bind fun r => match r with
            | .r0 =>
              ((ref11_Same N).bind fun r => match r with
              | .r0 =>
                if y3_0 = y4_0 then
                  ((prog_Same (L1) ((((if (520 : Int) < ((n2 : Nat) : Int) then (520 : Int) else ((n2 : Nat) : Int))).toNat - 0)) ((n3 - 0)) (L5) ((((if (520 : Int) < ((n6 : Nat) : Int) then (520 : Int) else ((n6 : Nat) : Int))).toNat - 0)) ((n7 - 0)) N).bind fun r => match r with
                  | .r0 y8_0 =>
                    ((ref11_Same_2 (L1) ((((if (520 : Int) < ((n2 : Nat) : Int) then (520 : Int) else ((n2 : Nat) : Int))).toNat - 0)) ((n3 - 0)) (L5) ((((if (520 : Int) < ((n6 : Nat) : Int) then (520 : Int) else ((n6 : Nat) : Int))).toNat - 0)) ((n7 - 0)) N).bind fun r => match r with
                    | .r0 y9_0 =>
                      if y8_0 = y9_0 then
                        ((prog_Same_2 (L9) ((((if (520 : Int) < ((n10 : Nat) : Int) then (520 : Int) else ((n10 : Nat) : Int))).toNat - 0)) ((n11 - 0)) ((((if (520 : Int) < ((n10 : Nat) : Int) then (520 : Int) else ((n10 : Nat) : Int))).toNat - 0)) ((n11 - 0)) N).bind fun r => match r with
                        | .r0 y11_0 =>
                          if y11_0 = true then
                            some (.r0 (true) : law11_ProgLinksR)
                          else
                          some (.r0 (false) : law11_ProgLinksR)
                        )
                      else
                      some (.r0 (false) : law11_ProgLinksR)
                    )
                  )
                else
                some (.r0 (false) : law11_ProgLinksR)
              )
            )
          | .r1 y4_0 =>
            ((prog_Link_2 N).bind fun r => match r with
            | .r0 =>
              ((ref11_Same_3 (y4_0) N).bind fun r => match r with
              | .r0 y6_0 =>
                if y6_0 = true then
                  if y3_0 = (0 : Int) then
                    ((prog_Same (L1) ((((if (520 : Int) < ((n2 : Nat) : Int) then (520 : Int) else ((n2 : Nat) : Int))).toNat - 0)) ((n3 - 0)) (L5) ((((if (520 : Int) < ((n6 : Nat) : Int) then (520 : Int) else ((n6 : Nat) : Int))).toNat - 0)) ((n7 - 0)) N).bind fun r => match r with
                    | .r0 y9_0 =>
                      ((ref11_Same_2 (L1) ((((if (520 : Int) < ((n2 : Nat) : Int) then (520 : Int) else ((n2 : Nat) : Int))).toNat - 0)) ((n3 - 0)) (L5) ((((if (520 : Int) < ((n6 : Nat) : Int) then (520 : Int) else ((n6 : Nat) : Int))).toNat - 0)) ((n7 - 0)) N).bind fun r => match r with
                      | .r0 y10_0 =>
                        if y9_0 = y10_0 then
                          ((prog_Same_2 (L9) ((((if (520 : Int) < ((n10 : Nat) : Int) then (520 : Int) else ((n10 : Nat) : Int))).toNat - 0)) ((n11 - 0)) ((((if (520 : Int) < ((n10 : Nat) : Int) then (520 : Int) else ((n10 : Nat) : Int))).toNat - 0)) ((n11 - 0)) N).bind fun r => match r with
                          | .r0 y12_0 =>
                            if y12_0 = true then
                              some (.r0 (true) : law11_ProgLinksR)
                            else
                            some (.r0 (false) : law11_ProgLinksR)
                          )
                        else
                        some (.r0 (false) : law11_ProgLinksR)
                      )
                    )
                  else
                  some (.r0 (false) : law11_ProgLinksR)
                else
                some (.r0 (false) : law11_ProgLinksR)
              )
            )
          )
        | .r1 y3_0 =>
          ((ref11_Link (L1) ((((if (520 : Int) < ((n2 : Nat) : Int) then (520 : Int) else ((n2 : Nat) : Int))).toNat - 0)) ((n3 - 0)) (L5) ((((if (520 : Int) < ((n6 : Nat) : Int) then (520 : Int) else ((n6 : Nat) : Int))).toNat - 0)) ((n7 - 0)) (L9) ((((if (520 : Int) < ((n10 : Nat) : Int) then (520 : Int) else ((n10 : Nat) : Int))).toNat - 0)) ((n11 - 0)) N).bind fun r => match r with
          | .r0 y4_0 =>
            ((prog_Link_2 N).bind fun r => match r with
            | .r0 =>
              ((ref11_Same_4 (y3_0) N).bind fun r => match r with
              | .r0 y6_0 =>
                if y6_0 = true then
                  if (0 : Int) = y4_0 then
                    ((prog_Same (L1) ((((if (520 : Int) < ((n2 : Nat) : Int) then (520 : Int) else ((n2 : Nat) : Int))).toNat - 0)) ((n3 - 0)) (L5) ((((if (520 : Int) < ((n6 : Nat) : Int) then (520 : Int) else ((n6 : Nat) : Int))).toNat - 0)) ((n7 - 0)) N).bind fun r => match r with
                    | .r0 y9_0 =>
                      ((ref11_Same_2 (L1) ((((if (520 : Int) < ((n2 : Nat) : Int) then (520 : Int) else ((n2 : Nat) : Int))).toNat - 0)) ((n3 - 0)) (L5) ((((if (520 : Int) < ((n6 : Nat) : Int) then (520 : Int) else ((n6 : Nat) : Int))).toNat - 0)) ((n7 - 0)) N).bind fun r => match r with
                      | .r0 y10_0 =>
                        if y9_0 = y10_0 then
                          ((prog_Same_2 (L9) ((((if (520 : Int) < ((n10 : Nat) : Int) then (520 : Int) else ((n10 : Nat) : Int))).toNat - 0)) ((n11 - 0)) ((((if (520 : Int) < ((n10 : Nat) : Int) then (520 : Int) else ((n10 : Nat) : Int))).toNat - 0)) ((n11 - 0)) N).bind fun r => match r with
                          | .r0 y12_0 =>
                            if y12_0 = true then
                              some (.r0 (true) : law11_ProgLinksR)
                            else
                            some (.r0 (false) : law11_ProgLinksR)
                          )
                        else
                        some (.r0 (false) : law11_ProgLinksR)
                      )
                    )
                  else
                  some (.r0 (false) : law11_ProgLinksR)
                else
                some (.r0 (false) : law11_ProgLinksR)
              )
            )
          | .r1 y4_0 =>
            ((prog_Link_2 N).bind fun r => match r with
            | .r0 =>
              ((ref11_Same_5 (y3_0) (y4_0) N).bind fun r => match r with
              | .r0 y6_0 =>
                if y6_0 = true then
                  ((prog_Same (L1) ((((if (520 : Int) < ((n2 : Nat) : Int) then (520 : Int) else ((n2 : Nat) : Int))).toNat - 0)) ((n3 - 0)) (L5) ((((if (520 : Int) < ((n6 : Nat) : Int) then (520 : Int) else ((n6 : Nat) : Int))).toNat - 0)) ((n7 - 0)) N).bind fun r => match r with
                  | .r0 y8_0 =>
                    ((ref11_Same_2 (L1) ((((if (520 : Int) < ((n2 : Nat) : Int) then (520 : Int) else ((n2 : Nat) : Int))).toNat - 0)) ((n3 - 0)) (L5) ((((if (520 : Int) < ((n6 : Nat) : Int) then (520 : Int) else ((n6 : Nat) : Int))).toNat - 0)) ((n7 - 0)) N).bind fun r => match r with
                    | .r0 y9_0 =>
                      if y8_0 = y9_0 then
                        ((prog_Same_2 (L9) ((((if (520 : Int) < ((n10 : Nat) : Int) then (520 : Int) else ((n10 : Nat) : Int))).toNat - 0)) ((n11 - 0)) ((((if (520 : Int) < ((n10 : Nat) : Int) then (520 : Int) else ((n10 : Nat) : Int))).toNat - 0)) ((n11 - 0)) N).bind fun r => match r with
                        | .r0 y11_0 =>
                          if y11_0 = true then
                            some (.r0 (true) : law11_ProgLinksR)
                          else
                          some (.r0 (false) : law11_ProgLinksR)
                        )
                      else
                      some (.r0 (false) : law11_ProgLinksR)
                    )
                  )
                else
                some (.r0 (false) : law11_ProgLinksR)
              )
            )
          )
        )
      else
      none
    else
    none
  else
  none

/-- gantlet/prog.Link -/
inductive prog_Link_3R where
  | r0

inductive prog_Link_3X where
  | h1m0 (v2 : Nat)
  | h2m0 (v1 : Nat)
  | h3m0 (v2 : Nat)

def prog_Link_3_h1m0  (N : Nat) (v2 : Nat) : Option (prog_Link_3X ⊕ prog_Link_3R) :=
  if ((v2 : Nat) : Int) < (3 : Int) then
    some (.inl (.h1m0 ((v2 + 1)) : prog_Link_3X))
  else
  some (.inl (.h2m0 (0) : prog_Link_3X))

def prog_Link_3_h2m0  (N : Nat) (v1 : Nat) : Option (prog_Link_3X ⊕ prog_Link_3R) :=
  if ((v1 : Nat) : Int) < (3 : Int) then
    some (.inl (.h3m0 (v1) : prog_Link_3X))
  else
  some (.inr (.r0 : prog_Link_3R))

def prog_Link_3_h3m0  (N : Nat) (v2 : Nat) : Option (prog_Link_3X ⊕ prog_Link_3R) :=
  if (((v2 + 1) : Nat) : Int) ≤ (9223372036854775807 : Int) then
    some (.inl (.h2m0 ((v2 + 1)) : prog_Link_3X))
  else
  none

def prog_Link_3Step  (N : Nat) : prog_Link_3X → Option (prog_Link_3X ⊕ prog_Link_3R)
  | .h1m0 v2 => prog_Link_3_h1m0  N v2
  | .h2m0 v1 => prog_Link_3_h2m0  N v1
  | .h3m0 v2 => prog_Link_3_h3m0  N v2

def prog_Link_3In  (N : Nat) : Option (prog_Link_3X ⊕ prog_Link_3R) :=
  some (.inl (.h1m0 (0) : prog_Link_3X))

def prog_Link_3  (N : Nat) : Option prog_Link_3R := goM (prog_Link_3Step  N) N (prog_Link_3In  N)

/-- gantlet/gantletref11.Link -/
inductive ref11_Link_2R where
  | r0

inductive ref11_Link_2X where
  | h1m0 (v1 : Nat)
  | h2m0 (v0 : Nat)
  | h3m0 (v0 : Nat)

def ref11_Link_2_h1m0  (N : Nat) (v1 : Nat) : Option (ref11_Link_2X ⊕ ref11_Link_2R) :=
  if ((v1 : Nat) : Int) < (3 : Int) then
    some (.inl (.h1m0 ((v1 + 1)) : ref11_Link_2X))
  else
  some (.inl (.h2m0 (0) : ref11_Link_2X))

def ref11_Link_2_h2m0  (N : Nat) (v0 : Nat) : Option (ref11_Link_2X ⊕ ref11_Link_2R) :=
  if ((v0 : Nat) : Int) < (3 : Int) then
    some (.inl (.h3m0 (v0) : ref11_Link_2X))
  else
  some (.inr (.r0 : ref11_Link_2R))

def ref11_Link_2_h3m0  (N : Nat) (v0 : Nat) : Option (ref11_Link_2X ⊕ ref11_Link_2R) :=
  if ((v0 : Nat) : Int) = (0 : Int) then
    some (.inl (.h2m0 ((v0 + 1)) : ref11_Link_2X))
  else
  if ((v0 : Nat) : Int) = (1 : Int) then
    some (.inl (.h2m0 ((v0 + 1)) : ref11_Link_2X))
  else
  if ((v0 : Nat) : Int) = (2 : Int) then
    some (.inl (.h2m0 ((v0 + 1)) : ref11_Link_2X))
  else
  none

def ref11_Link_2Step  (N : Nat) : ref11_Link_2X → Option (ref11_Link_2X ⊕ ref11_Link_2R)
  | .h1m0 v1 => ref11_Link_2_h1m0  N v1
  | .h2m0 v0 => ref11_Link_2_h2m0  N v0
  | .h3m0 v0 => ref11_Link_2_h3m0  N v0

def ref11_Link_2In  (N : Nat) : Option (ref11_Link_2X ⊕ ref11_Link_2R) :=
  some (.inl (.h1m0 (0) : ref11_Link_2X))

def ref11_Link_2  (N : Nat) : Option ref11_Link_2R := goM (ref11_Link_2Step  N) N (ref11_Link_2In  N)

/-- gantlet/prog.Same -/
inductive prog_Same_3R where
  | r0

inductive prog_Same_3X where
  | h1m0

def prog_Same_3_h1m0  (N : Nat) : Option (prog_Same_3X ⊕ prog_Same_3R) :=
  some (.inr (.r0 : prog_Same_3R))

def prog_Same_3Step  (N : Nat) : prog_Same_3X → Option (prog_Same_3X ⊕ prog_Same_3R)
  | .h1m0 => prog_Same_3_h1m0  N

def prog_Same_3In  (N : Nat) : Option (prog_Same_3X ⊕ prog_Same_3R) :=
  some (.inl (.h1m0 : prog_Same_3X))

def prog_Same_3  (N : Nat) : Option prog_Same_3R := goM (prog_Same_3Step  N) N (prog_Same_3In  N)

/-- gantlet/gantletlaw11.ProgLinks -/
inductive law11_ProgLinks_2R where
  | r0

def law11_ProgLinks_2  (N : Nat) : Option law11_ProgLinks_2R :=
  ((prog_Link_3 N).bind fun r => match r with
  | .r0 =>
    ((ref11_Link_2 N).bind fun r => match r with
    | .r0 =>
      ((prog_Link_2 N).bind fun r => match r with
      | .r0 =>
        ((ref11_Same N).bind fun r => match r with
        | .r0 =>
          ((prog_Same_3 N).bind fun r => match r with
          | .r0 =>
            ((ref11_Same N).bind fun r => match r with
            | .r0 =>
              ((prog_Same_3 N).bind fun r => match r with
              | .r0 =>
                some (.r0 : law11_ProgLinks_2R)
              )
            )
          )
        )
      )
    )
  )
end Ev
end Go.Proofs.Ytahjcmhiifkniaa
