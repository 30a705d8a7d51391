/- Records, and the program's functions as plain ones. -/
import Derived.Test.YtcpgeokpkbmkiaaFm
namespace Go.Proofs.Ytcpgeokpkbmkiaa
open Go.RowKit
namespace Ev
set_option linter.unusedVariables false
structure R_ii where
  a0 : Int
  a1 : Int
def R_ii.z : R_ii := ⟨0, 0⟩
structure R_iiii where
  a0 : Int
  a1 : Int
  a2 : Int
  a3 : Int
def R_iiii.z : R_iiii := ⟨0, 0, 0, 0⟩
/-- gantlet/instr.kind -/
inductive instr_kindR where
  | r0
  | r1
  | r2
  | r3
  | r4
  | r5
  | r6
  | r7
  | r8
  | r9
  | r10
  | r11
  | r12
  | r13
  | r14
  | r15
  | r16
  | r17
  | r18
  | r19
  | r20

def instr_kind (a0 : Int) (N : Nat) : Option instr_kindR :=
  if a0 < (0 : Int) then
    some (.r0 : instr_kindR)
  else
  if (21 : Int) ≤ a0 then
    some (.r0 : instr_kindR)
  else
  if a0 = (0 : Int) then
    some (.r0 : instr_kindR)
  else
  if a0 = (1 : Int) then
    some (.r1 : instr_kindR)
  else
  if a0 = (2 : Int) then
    some (.r2 : instr_kindR)
  else
  if a0 = (3 : Int) then
    some (.r3 : instr_kindR)
  else
  if a0 = (4 : Int) then
    some (.r4 : instr_kindR)
  else
  if a0 = (5 : Int) then
    some (.r5 : instr_kindR)
  else
  if a0 = (6 : Int) then
    some (.r6 : instr_kindR)
  else
  if a0 = (7 : Int) then
    some (.r7 : instr_kindR)
  else
  if a0 = (8 : Int) then
    some (.r8 : instr_kindR)
  else
  if a0 = (9 : Int) then
    some (.r9 : instr_kindR)
  else
  if a0 = (10 : Int) then
    some (.r10 : instr_kindR)
  else
  if a0 = (11 : Int) then
    some (.r11 : instr_kindR)
  else
  if a0 = (12 : Int) then
    some (.r12 : instr_kindR)
  else
  if a0 = (13 : Int) then
    some (.r13 : instr_kindR)
  else
  if a0 = (14 : Int) then
    some (.r14 : instr_kindR)
  else
  if a0 = (15 : Int) then
    some (.r15 : instr_kindR)
  else
  if a0 = (16 : Int) then
    some (.r16 : instr_kindR)
  else
  if a0 = (17 : Int) then
    some (.r17 : instr_kindR)
  else
  if a0 = (18 : Int) then
    some (.r18 : instr_kindR)
  else
  if a0 = (19 : Int) then
    some (.r19 : instr_kindR)
  else
  some (.r20 : instr_kindR)

/-- (gantlet/instr.shape).fits -/
inductive instr_shape_fitsR where
  | r0 (w0 : Bool)

def instr_shape_fits (a0 : Int) (a1 : Int) (a2 : Int) (N : Nat) : Option instr_shape_fitsR :=
  if a0 = (1 : Int) then
    if (0 : Int) ≤ a1 then
      if a1 ≤ (7 : Int) then
        some (.r0 (true) : instr_shape_fitsR)
      else
      some (.r0 (false) : instr_shape_fitsR)
    else
    some (.r0 (false) : instr_shape_fitsR)
  else
  if a0 = (2 : Int) then
    if (0 : Int) ≤ a1 then
      if a1 ≤ (15 : Int) then
        some (.r0 (true) : instr_shape_fitsR)
      else
      some (.r0 (false) : instr_shape_fitsR)
    else
    some (.r0 (false) : instr_shape_fitsR)
  else
  if a0 = (3 : Int) then
    if (1 : Int) ≤ a1 then
      if a1 ≤ (16 : Int) then
        some (.r0 (true) : instr_shape_fitsR)
      else
      some (.r0 (false) : instr_shape_fitsR)
    else
    some (.r0 (false) : instr_shape_fitsR)
  else
  if a0 = (4 : Int) then
    if (0 : Int) ≤ a1 then
      if a1 ≤ (512 : Int) then
        some (.r0 (true) : instr_shape_fitsR)
      else
      some (.r0 (false) : instr_shape_fitsR)
    else
    some (.r0 (false) : instr_shape_fitsR)
  else
  if a0 = (5 : Int) then
    if (0 : Int) ≤ a2 then
      if a2 ≤ (64 : Int) then
        if (0 : Int) ≤ a1 then
          if a1 ≤ (IntKind.i64.wrap ((IntKind.i64.wrap ((1 : Int) * (2 ^ (a2).toNat : Int))) - (1 : Int))) then
            some (.r0 (true) : instr_shape_fitsR)
          else
          some (.r0 (false) : instr_shape_fitsR)
        else
        some (.r0 (false) : instr_shape_fitsR)
      else
      none
    else
    none
  else
  if a0 = (6 : Int) then
    if (-1099511627776 : Int) ≤ a1 then
      if a1 ≤ (1099511627776 : Int) then
        some (.r0 (true) : instr_shape_fitsR)
      else
      some (.r0 (false) : instr_shape_fitsR)
    else
    some (.r0 (false) : instr_shape_fitsR)
  else
  if (0 : Int) ≤ a1 then
    if a1 ≤ (0 : Int) then
      some (.r0 (true) : instr_shape_fitsR)
    else
    some (.r0 (false) : instr_shape_fitsR)
  else
  some (.r0 (false) : instr_shape_fitsR)

/-- gantlet/instr.Check -/
inductive instr_CheckR where
  | r0 (w0 : Int)

inductive instr_CheckX where
  | h1m0 (v1 : Nat) (v2 : Nat) (v3 : Nat)
  | h1m1 (v1 : Nat) (v2 : Nat) (v3 : Nat)
  | h1m2 (v1 : Nat) (v2 : Nat) (v3 : Nat)
  | h1m3 (v1 : Nat) (v2 : Nat) (v3 : Nat)

def instr_Check_h1m0 (a0 : Int) (a1 : Int) (a2 : Int) (a3 : Int) (N : Nat) (v1 : Nat) (v2 : Nat) (v3 : Nat) : Option (instr_CheckX ⊕ instr_CheckR) :=
  ((instr_shape_fits (((v1 : Nat) : Int)) (a1) ((0 : Int)) N).bind fun r => match r with
  | .r0 y0_0 =>
    if ¬ (y0_0 = true) then
      some (.inr (.r0 ((100 : Int)) : instr_CheckR))
    else
    some (.inl (.h1m1 (v1) (v2) (v3) : instr_CheckX))
  )

def instr_Check_h1m1 (a0 : Int) (a1 : Int) (a2 : Int) (a3 : Int) (N : Nat) (v1 : Nat) (v2 : Nat) (v3 : Nat) : Option (instr_CheckX ⊕ instr_CheckR) :=
  ((instr_shape_fits (((v2 : Nat) : Int)) (a2) (a1) N).bind fun r => match r with
  | .r0 y0_0 =>
    if ¬ (y0_0 = true) then
      some (.inr (.r0 ((100 : Int)) : instr_CheckR))
    else
    some (.inl (.h1m2 (v1) (v2) (v3) : instr_CheckX))
  )

def instr_Check_h1m2 (a0 : Int) (a1 : Int) (a2 : Int) (a3 : Int) (N : Nat) (v1 : Nat) (v2 : Nat) (v3 : Nat) : Option (instr_CheckX ⊕ instr_CheckR) :=
  ((instr_shape_fits (((v3 : Nat) : Int)) (a3) (a2) N).bind fun r => match r with
  | .r0 y0_0 =>
    if ¬ (y0_0 = true) then
      some (.inr (.r0 ((100 : Int)) : instr_CheckR))
    else
    some (.inl (.h1m3 (v1) (v2) (v3) : instr_CheckX))
  )

def instr_Check_h1m3 (a0 : Int) (a1 : Int) (a2 : Int) (a3 : Int) (N : Nat) (v1 : Nat) (v2 : Nat) (v3 : Nat) : Option (instr_CheckX ⊕ instr_CheckR) :=
  some (.inr (.r0 ((0 : Int)) : instr_CheckR))

def instr_CheckStep (a0 : Int) (a1 : Int) (a2 : Int) (a3 : Int) (N : Nat) : instr_CheckX → Option (instr_CheckX ⊕ instr_CheckR)
  | .h1m0 v1 v2 v3 => instr_Check_h1m0 a0 a1 a2 a3 N v1 v2 v3
  | .h1m1 v1 v2 v3 => instr_Check_h1m1 a0 a1 a2 a3 N v1 v2 v3
  | .h1m2 v1 v2 v3 => instr_Check_h1m2 a0 a1 a2 a3 N v1 v2 v3
  | .h1m3 v1 v2 v3 => instr_Check_h1m3 a0 a1 a2 a3 N v1 v2 v3

def instr_CheckIn (a0 : Int) (a1 : Int) (a2 : Int) (a3 : Int) (N : Nat) : Option (instr_CheckX ⊕ instr_CheckR) :=
  ((instr_kind (a0) N).bind fun r => match r with
  | .r0 =>
    some (.inr (.r0 ((100 : Int)) : instr_CheckR))
  | .r1 =>
    some (.inl (.h1m0 (1) (6) (0) : instr_CheckX))
  | .r2 =>
    some (.inl (.h1m0 (1) (0) (0) : instr_CheckX))
  | .r3 =>
    some (.inl (.h1m0 (1) (1) (0) : instr_CheckX))
  | .r4 =>
    some (.inl (.h1m0 (1) (1) (1) : instr_CheckX))
  | .r5 =>
    some (.inl (.h1m0 (1) (1) (1) : instr_CheckX))
  | .r6 =>
    some (.inl (.h1m0 (1) (1) (1) : instr_CheckX))
  | .r7 =>
    some (.inl (.h1m0 (1) (1) (1) : instr_CheckX))
  | .r8 =>
    some (.inl (.h1m0 (4) (0) (0) : instr_CheckX))
  | .r9 =>
    some (.inl (.h1m0 (1) (4) (0) : instr_CheckX))
  | .r10 =>
    some (.inl (.h1m0 (1) (0) (0) : instr_CheckX))
  | .r11 =>
    some (.inl (.h1m0 (1) (3) (5) : instr_CheckX))
  | .r12 =>
    some (.inl (.h1m0 (1) (0) (0) : instr_CheckX))
  | .r13 =>
    some (.inl (.h1m0 (1) (1) (2) : instr_CheckX))
  | .r14 =>
    some (.inl (.h1m0 (1) (2) (1) : instr_CheckX))
  | .r15 =>
    some (.inl (.h1m0 (0) (0) (0) : instr_CheckX))
  | .r16 =>
    some (.inl (.h1m0 (0) (0) (0) : instr_CheckX))
  | .r17 =>
    some (.inl (.h1m0 (0) (0) (0) : instr_CheckX))
  | .r18 =>
    some (.inl (.h1m0 (0) (0) (0) : instr_CheckX))
  | .r19 =>
    some (.inl (.h1m0 (1) (0) (0) : instr_CheckX))
  | .r20 =>
    some (.inl (.h1m0 (0) (0) (0) : instr_CheckX))
  )

def instr_Check (a0 : Int) (a1 : Int) (a2 : Int) (a3 : Int) (N : Nat) : Option instr_CheckR := goM (instr_CheckStep a0 a1 a2 a3 N) N (instr_CheckIn a0 a1 a2 a3 N)

/-- (*gantlet/check.scan).refuse -/
inductive check_scan_refuseR where
  | r0 (w1 : Int)

def check_scan_refuse (a0 : Int) (a1 : Int) (a2 : Int) (a3 : Int) (L4 : List R_iiii) (a5 : Int) (a6 : Int) (a7 : Int) (N : Nat) : Option check_scan_refuseR :=
  if a0 = (15 : Int) then
    ((instr_Check (a0) (a1) (a2) (a3) N).bind fun r => match r with
    | .r0 y1_0 =>
      if ¬ (y1_0 = (0 : Int)) then
        some (.r0 ((120 : Int)) : check_scan_refuseR)
      else
      some (.r0 ((0 : Int)) : check_scan_refuseR)
    )
  else
  if a0 = (16 : Int) then
    some (.r0 ((120 : Int)) : check_scan_refuseR)
  else
  if a0 = (17 : Int) then
    some (.r0 ((120 : Int)) : check_scan_refuseR)
  else
  if a0 = (18 : Int) then
    some (.r0 ((120 : Int)) : check_scan_refuseR)
  else
  ((instr_Check (a0) (a1) (a2) (a3) N).bind fun r => match r with
  | .r0 y5_0 =>
    if ¬ (y5_0 = (0 : Int)) then
      some (.r0 ((120 : Int)) : check_scan_refuseR)
    else
    some (.r0 ((0 : Int)) : check_scan_refuseR)
  )

/-- (*gantlet/check.stack).around -/
inductive check_stack_aroundR where
  | r0

def check_stack_around (L0 : List R_iiii) (a1 : Int) (a2 : Int) (a3 : Int) (N : Nat) : Option check_stack_aroundR :=
  some (.r0 : check_stack_aroundR)

/-- (*gantlet/check.scan).take -/
inductive check_scan_takeR where
  | r0
  | r1

def check_scan_take (a0 : Int) (a1 : Int) (L2 : List R_iiii) (a3 : Int) (a4 : Int) (a5 : Int) (N : Nat) : Option check_scan_takeR :=
  ((check_stack_around (L2) (a3) (a4) (a5) N).bind fun r => match r with
  | .r0 =>
    if a1 = (15 : Int) then
      some (.r0 : check_scan_takeR)
    else
    if a1 = (16 : Int) then
      none
    else
    if a1 = (17 : Int) then
      none
    else
    some (.r1 : check_scan_takeR)
  )

/-- gantlet/instr.Target -/
inductive instr_TargetR where
  | r0 (w0 : Int) (w1 : Bool)

def instr_Target (a0 : Int) (a1 : Int) (a2 : Int) (a3 : Int) (N : Nat) : Option instr_TargetR :=
  if a0 = (8 : Int) then
    some (.r0 (a1) (true) : instr_TargetR)
  else
  if a0 = (9 : Int) then
    some (.r0 (a2) (true) : instr_TargetR)
  else
  some (.r0 ((0 : Int)) (false) : instr_TargetR)

/-- (*gantlet/check.scan).aims -/
inductive check_scan_aimsR where
  | r0 (w3 : Int) (w4 : Int)

inductive check_scan_aimsX where
  | h1m0 (v3 : Nat)

def check_scan_aims_h1m0 (L0 : List R_iiii) (L1 : List R_ii) (a2 : Int) (a3 : Int) (a4 : Int) (N : Nat) (v3 : Nat) : Option (check_scan_aimsX ⊕ check_scan_aimsR) :=
  if ((v3 : Nat) : Int) < ((L0.length : Nat) : Int) then
    ((instr_Target ((L0.getD v3 R_iiii.z).a0) ((L0.getD v3 R_iiii.z).a1) ((L0.getD v3 R_iiii.z).a2) ((L0.getD v3 R_iiii.z).a3) N).bind fun r => match r with
    | .r0 y1_0 y1_1 =>
      if y1_1 = true then
        if ((L0.length : Nat) : Int) < y1_0 then
          some (.inr (.r0 (((v3 : Nat) : Int)) ((120 : Int)) : check_scan_aimsR))
        else
        if (0 : Int) ≤ y1_0 then
          if (y1_0).toNat < L1.length then
            if v3 < L1.length then
              if ¬ (((L1.getD (y1_0).toNat R_ii.z).a0 = (L1.getD v3 R_ii.z).a0 ∧ (L1.getD (y1_0).toNat R_ii.z).a1 = (L1.getD v3 R_ii.z).a1)) then
                some (.inr (.r0 (((v3 : Nat) : Int)) ((120 : Int)) : check_scan_aimsR))
              else
              if (((v3 + 1) : Nat) : Int) ≤ (9223372036854775807 : Int) then
                some (.inl (.h1m0 ((v3 + 1)) : check_scan_aimsX))
              else
              none
            else
            none
          else
          none
        else
        none
      else
      if (((v3 + 1) : Nat) : Int) ≤ (9223372036854775807 : Int) then
        some (.inl (.h1m0 ((v3 + 1)) : check_scan_aimsX))
      else
      none
    )
  else
  some (.inr (.r0 (a3) (a4) : check_scan_aimsR))

def check_scan_aimsStep (L0 : List R_iiii) (L1 : List R_ii) (a2 : Int) (a3 : Int) (a4 : Int) (N : Nat) : check_scan_aimsX → Option (check_scan_aimsX ⊕ check_scan_aimsR)
  | .h1m0 v3 => check_scan_aims_h1m0 L0 L1 a2 a3 a4 N v3

def check_scan_aimsIn (L0 : List R_iiii) (L1 : List R_ii) (a2 : Int) (a3 : Int) (a4 : Int) (N : Nat) : Option (check_scan_aimsX ⊕ check_scan_aimsR) :=
  some (.inl (.h1m0 (0) : check_scan_aimsX))

def check_scan_aims (L0 : List R_iiii) (L1 : List R_ii) (a2 : Int) (a3 : Int) (a4 : Int) (N : Nat) : Option check_scan_aimsR := goM (check_scan_aimsStep L0 L1 a2 a3 a4 N) N (check_scan_aimsIn L0 L1 a2 a3 a4 N)

/-- (*gantlet/check.scan).refuse -/
inductive check_scan_refuse_2R where
  | r0 (w5 : Int)

def check_scan_refuse_2 (a0 : Int) (a1 : Int) (a2 : Int) (a3 : Int) (L4 : List R_ii) (L5 : List R_iiii) (L6 : List R_ii) (L7 : List Int) (L8 : List Int) (a9 : Int) (a10 : Int) (a11 : Int) (N : Nat) : Option check_scan_refuse_2R :=
  if a0 = (15 : Int) then
    if (8 : Int) ≤ ((L4.length : Nat) : Int) then
      ((instr_Check (a0) (a1) (a2) (a3) N).bind fun r => match r with
      | .r0 y2_0 =>
        if y2_0 = (0 : Int) then
          some (.r0 ((140 : Int)) : check_scan_refuse_2R)
        else
        ((instr_Check (a0) (a1) (a2) (a3) N).bind fun r => match r with
        | .r0 y4_0 =>
          if ¬ (y4_0 = (0 : Int)) then
            some (.r0 ((120 : Int)) : check_scan_refuse_2R)
          else
          some (.r0 ((0 : Int)) : check_scan_refuse_2R)
        )
      )
    else
    ((instr_Check (a0) (a1) (a2) (a3) N).bind fun r => match r with
    | .r0 y2_0 =>
      if ¬ (y2_0 = (0 : Int)) then
        some (.r0 ((120 : Int)) : check_scan_refuse_2R)
      else
      some (.r0 ((0 : Int)) : check_scan_refuse_2R)
    )
  else
  if a0 = (16 : Int) then
    if ((L4.length : Nat) : Int) = (0 : Int) then
      some (.r0 ((120 : Int)) : check_scan_refuse_2R)
    else
    if (((L4.length : Nat) : Int) - (1 : Int)) ≤ (9223372036854775807 : Int) then
      if (0 : Int) ≤ (L4.getD (L4.length - 1) R_ii.z).a1 then
        some (.r0 ((120 : Int)) : check_scan_refuse_2R)
      else
      ((instr_Check (a0) (a1) (a2) (a3) N).bind fun r => match r with
      | .r0 y5_0 =>
        if ¬ (y5_0 = (0 : Int)) then
          some (.r0 ((120 : Int)) : check_scan_refuse_2R)
        else
        some (.r0 ((0 : Int)) : check_scan_refuse_2R)
      )
    else
    none
  else
  if a0 = (17 : Int) then
    if ((L4.length : Nat) : Int) = (0 : Int) then
      some (.r0 ((120 : Int)) : check_scan_refuse_2R)
    else
    ((instr_Check (a0) (a1) (a2) (a3) N).bind fun r => match r with
    | .r0 y4_0 =>
      if ¬ (y4_0 = (0 : Int)) then
        some (.r0 ((120 : Int)) : check_scan_refuse_2R)
      else
      some (.r0 ((0 : Int)) : check_scan_refuse_2R)
    )
  else
  if a0 = (18 : Int) then
    if ((L4.length : Nat) : Int) = (0 : Int) then
      some (.r0 ((120 : Int)) : check_scan_refuse_2R)
    else
    ((instr_Check (a0) (a1) (a2) (a3) N).bind fun r => match r with
    | .r0 y5_0 =>
      if ¬ (y5_0 = (0 : Int)) then
        some (.r0 ((120 : Int)) : check_scan_refuse_2R)
      else
      some (.r0 ((0 : Int)) : check_scan_refuse_2R)
    )
  else
  if a0 = (20 : Int) then
    if (0 : Int) < ((L4.length : Nat) : Int) then
      some (.r0 ((120 : Int)) : check_scan_refuse_2R)
    else
    ((instr_Check (a0) (a1) (a2) (a3) N).bind fun r => match r with
    | .r0 y6_0 =>
      if ¬ (y6_0 = (0 : Int)) then
        some (.r0 ((120 : Int)) : check_scan_refuse_2R)
      else
      some (.r0 ((0 : Int)) : check_scan_refuse_2R)
    )
  else
  ((instr_Check (a0) (a1) (a2) (a3) N).bind fun r => match r with
  | .r0 y5_0 =>
    if ¬ (y5_0 = (0 : Int)) then
      some (.r0 ((120 : Int)) : check_scan_refuse_2R)
    else
    some (.r0 ((0 : Int)) : check_scan_refuse_2R)
  )

/-- (*gantlet/check.stack).around -/
inductive check_stack_around_2R where
  | r0 (w5 : Int) (w6 : Int)

def check_stack_around_2 (L0 : List R_ii) (L1 : List R_iiii) (L2 : List R_ii) (L3 : List Int) (L4 : List Int) (a5 : Int) (a6 : Int) (a7 : Int) (N : Nat) : Option check_stack_around_2R :=
  if ((L0.length : Nat) : Int) = (0 : Int) then
    some (.r0 ((-1 : Int)) ((0 : Int)) : check_stack_around_2R)
  else
  if (((L0.length : Nat) : Int) - (1 : Int)) ≤ (9223372036854775807 : Int) then
    if (0 : Int) ≤ (L0.getD (L0.length - 1) R_ii.z).a1 then
      some (.r0 ((L0.getD (L0.length - 1) R_ii.z).a0) ((1 : Int)) : check_stack_around_2R)
    else
    some (.r0 ((L0.getD (L0.length - 1) R_ii.z).a0) ((0 : Int)) : check_stack_around_2R)
  else
  none

/-- (*gantlet/check.stack).pop -/
inductive check_stack_popR where
  | r0

def check_stack_pop (L0 : List R_ii) (L1 : List R_iiii) (L2 : List R_ii) (L3 : List Int) (L4 : List Int) (a5 : Int) (a6 : Int) (a7 : Int) (N : Nat) : Option check_stack_popR :=
  if (((L0.length : Nat) : Int) - (1 : Int)) ≤ (9223372036854775807 : Int) then
    if (0 : Int) ≤ (((L0.length : Nat) : Int) - (1 : Int)) then
      some (.r0 : check_stack_popR)
    else
    none
  else
  none

/-- (*gantlet/check.scan).take -/
inductive check_scan_take_2R where
  | r0 (w2 : List R_ii)
  | r1 (w2 : List R_ii) (w3 : List R_ii) (w4 : List Int) (w5 : Int)
  | r2 (w0 : List R_ii) (w3 : List R_ii) (w4 : List Int)

def check_scan_take_2 (a0 : Int) (a1 : Int) (L2 : List R_ii) (L3 : List R_iiii) (L4 : List R_ii) (L5 : List Int) (L6 : List Int) (a7 : Int) (a8 : Int) (a9 : Int) (N : Nat) : Option check_scan_take_2R :=
  ((check_stack_around_2 (L2) (L3) (L4) (L5) (L6) (a7) (a8) (a9) N).bind fun r => match r with
  | .r0 y0_0 y0_1 =>
    if L4.length ≤ 100000 then
      if L5.length ≤ 100000 then
        if a1 = (15 : Int) then
          if ((L2.length : Nat) : Int) = (0 : Int) then
            if L6.length ≤ 100000 then
              some (.r0 ((L4 ++ ([(⟨y0_0, y0_1⟩ : R_ii)] : List R_ii))) : check_scan_take_2R)
            else
            none
          else
          if L2.length ≤ 100000 then
            some (.r1 ((L2 ++ ([(⟨a0, (-1 : Int)⟩ : R_ii)] : List R_ii))) ((L4 ++ ([(⟨y0_0, y0_1⟩ : R_ii)] : List R_ii))) ((L5 ++ ([(-1 : Int)] : List Int))) ((if (((L2.length + 1) : Nat) : Int) > a7 then (((L2.length + 1) : Nat) : Int) else a7)) : check_scan_take_2R)
          else
          none
        else
        if a1 = (16 : Int) then
          if (((L2.length : Nat) : Int) - (1 : Int)) ≤ (9223372036854775807 : Int) then
            if (0 : Int) ≤ (((L2.length : Nat) : Int) - (1 : Int)) then
              if (0 : Int) ≤ (L2.getD ((((L2.length : Nat) : Int) - (1 : Int))).toNat R_ii.z).a0 then
                if ((L2.getD ((((L2.length : Nat) : Int) - (1 : Int))).toNat R_ii.z).a0).toNat < (L5.length + 1) then
                  some (.r2 ((L2.set ((((L2.length : Nat) : Int) - (1 : Int))).toNat (⟨(L2.getD ((((L2.length : Nat) : Int) - (1 : Int))).toNat R_ii.z).a0, a0⟩ : R_ii))) ((L4 ++ ([(⟨y0_0, y0_1⟩ : R_ii)] : List R_ii))) (((L5 ++ ([(-1 : Int)] : List Int)).set ((L2.getD ((((L2.length : Nat) : Int) - (1 : Int))).toNat R_ii.z).a0).toNat a0)) : check_scan_take_2R)
                else
                none
              else
              none
            else
            none
          else
          none
        else
        if a1 = (17 : Int) then
          if (((L2.length : Nat) : Int) - (1 : Int)) ≤ (9223372036854775807 : Int) then
            if (0 : Int) ≤ (((L2.length : Nat) : Int) - (1 : Int)) then
              if (0 : Int) ≤ (L2.getD ((((L2.length : Nat) : Int) - (1 : Int))).toNat R_ii.z).a1 then
                if ((L2.getD ((((L2.length : Nat) : Int) - (1 : Int))).toNat R_ii.z).a1).toNat < (L5.length + 1) then
                  if (0 : Int) ≤ a0 then
                    if (a0).toNat < (L5.length + 1) then
                      ((check_stack_pop (L2) (L3) ((L4 ++ ([(⟨y0_0, y0_1⟩ : R_ii)] : List R_ii))) ((((L5 ++ ([(-1 : Int)] : List Int)).set ((L2.getD ((((L2.length : Nat) : Int) - (1 : Int))).toNat R_ii.z).a1).toNat a0).set (a0).toNat (L2.getD ((((L2.length : Nat) : Int) - (1 : Int))).toNat R_ii.z).a0)) (L6) (a7) (a8) (a9) N).bind fun r => match r with
                      | .r0 =>
                        some (.r1 ((L2.take ((((L2.length : Nat) : Int) - (1 : Int))).toNat)) ((L4 ++ ([(⟨y0_0, y0_1⟩ : R_ii)] : List R_ii))) ((((L5 ++ ([(-1 : Int)] : List Int)).set ((L2.getD ((((L2.length : Nat) : Int) - (1 : Int))).toNat R_ii.z).a1).toNat a0).set (a0).toNat (L2.getD ((((L2.length : Nat) : Int) - (1 : Int))).toNat R_ii.z).a0)) (a7) : check_scan_take_2R)
                      )
                    else
                    none
                  else
                  none
                else
                none
              else
              if (0 : Int) ≤ (L2.getD ((((L2.length : Nat) : Int) - (1 : Int))).toNat R_ii.z).a0 then
                if ((L2.getD ((((L2.length : Nat) : Int) - (1 : Int))).toNat R_ii.z).a0).toNat < (L5.length + 1) then
                  if (0 : Int) ≤ a0 then
                    if (a0).toNat < (L5.length + 1) then
                      ((check_stack_pop (L2) (L3) ((L4 ++ ([(⟨y0_0, y0_1⟩ : R_ii)] : List R_ii))) ((((L5 ++ ([(-1 : Int)] : List Int)).set ((L2.getD ((((L2.length : Nat) : Int) - (1 : Int))).toNat R_ii.z).a0).toNat a0).set (a0).toNat (L2.getD ((((L2.length : Nat) : Int) - (1 : Int))).toNat R_ii.z).a0)) (L6) (a7) (a8) (a9) N).bind fun r => match r with
                      | .r0 =>
                        some (.r1 ((L2.take ((((L2.length : Nat) : Int) - (1 : Int))).toNat)) ((L4 ++ ([(⟨y0_0, y0_1⟩ : R_ii)] : List R_ii))) ((((L5 ++ ([(-1 : Int)] : List Int)).set ((L2.getD ((((L2.length : Nat) : Int) - (1 : Int))).toNat R_ii.z).a0).toNat a0).set (a0).toNat (L2.getD ((((L2.length : Nat) : Int) - (1 : Int))).toNat R_ii.z).a0)) (a7) : check_scan_take_2R)
                      )
                    else
                    none
                  else
                  none
                else
                none
              else
              none
            else
            none
          else
          none
        else
        some (.r2 (L2) ((L4 ++ ([(⟨y0_0, y0_1⟩ : R_ii)] : List R_ii))) ((L5 ++ ([(-1 : Int)] : List Int))) : check_scan_take_2R)
      else
      none
    else
    none
  )

/-- (*gantlet/check.scan).refuse -/
inductive check_scan_refuse_3R where
  | r0 (w3 : Int)

def check_scan_refuse_3 (a0 : Int) (a1 : Int) (a2 : Int) (a3 : Int) (L4 : List R_iiii) (L5 : List R_ii) (L6 : List Int) (a7 : Int) (a8 : Int) (a9 : Int) (N : Nat) : Option check_scan_refuse_3R :=
  if a0 = (15 : Int) then
    ((instr_Check (a0) (a1) (a2) (a3) N).bind fun r => match r with
    | .r0 y1_0 =>
      if ¬ (y1_0 = (0 : Int)) then
        some (.r0 ((120 : Int)) : check_scan_refuse_3R)
      else
      some (.r0 ((0 : Int)) : check_scan_refuse_3R)
    )
  else
  if a0 = (16 : Int) then
    some (.r0 ((120 : Int)) : check_scan_refuse_3R)
  else
  if a0 = (17 : Int) then
    some (.r0 ((120 : Int)) : check_scan_refuse_3R)
  else
  if a0 = (18 : Int) then
    some (.r0 ((120 : Int)) : check_scan_refuse_3R)
  else
  ((instr_Check (a0) (a1) (a2) (a3) N).bind fun r => match r with
  | .r0 y5_0 =>
    if ¬ (y5_0 = (0 : Int)) then
      some (.r0 ((120 : Int)) : check_scan_refuse_3R)
    else
    some (.r0 ((0 : Int)) : check_scan_refuse_3R)
  )

/-- (*gantlet/check.stack).around -/
inductive check_stack_around_3R where
  | r0

def check_stack_around_3 (L0 : List R_iiii) (L1 : List R_ii) (L2 : List Int) (a3 : Int) (a4 : Int) (a5 : Int) (N : Nat) : Option check_stack_around_3R :=
  some (.r0 : check_stack_around_3R)

/-- (*gantlet/check.scan).take -/
inductive check_scan_take_3R where
  | r0
  | r1

def check_scan_take_3 (a0 : Int) (a1 : Int) (L2 : List R_iiii) (L3 : List R_ii) (L4 : List Int) (a5 : Int) (a6 : Int) (a7 : Int) (N : Nat) : Option check_scan_take_3R :=
  ((check_stack_around_3 (L2) (L3) (L4) (a5) (a6) (a7) N).bind fun r => match r with
  | .r0 =>
    if L3.length ≤ 100000 then
      if L4.length ≤ 100000 then
        if a1 = (15 : Int) then
          some (.r0 : check_scan_take_3R)
        else
        if a1 = (16 : Int) then
          none
        else
        if a1 = (17 : Int) then
          none
        else
        some (.r1 : check_scan_take_3R)
      else
      none
    else
    none
  )

/-- (*gantlet/check.scan).aims -/
inductive check_scan_aims_2R where
  | r0 (w4 : Int) (w5 : Int)

inductive check_scan_aims_2X where
  | h1m0 (v4 : Nat)

def check_scan_aims_2_h1m0 (L0 : List R_iiii) (L1 : List R_ii) (L2 : List Int) (a3 : Int) (a4 : Int) (a5 : Int) (N : Nat) (v4 : Nat) : Option (check_scan_aims_2X ⊕ check_scan_aims_2R) :=
  if ((v4 : Nat) : Int) < ((L0.length : Nat) : Int) then
    ((instr_Target ((L0.getD v4 R_iiii.z).a0) ((L0.getD v4 R_iiii.z).a1) ((L0.getD v4 R_iiii.z).a2) ((L0.getD v4 R_iiii.z).a3) N).bind fun r => match r with
    | .r0 y1_0 y1_1 =>
      if y1_1 = true then
        if ((L0.length : Nat) : Int) < y1_0 then
          some (.inr (.r0 (((v4 : Nat) : Int)) ((120 : Int)) : check_scan_aims_2R))
        else
        if (0 : Int) ≤ y1_0 then
          if (y1_0).toNat < L1.length then
            if v4 < L1.length then
              if ¬ (((L1.getD (y1_0).toNat R_ii.z).a0 = (L1.getD v4 R_ii.z).a0 ∧ (L1.getD (y1_0).toNat R_ii.z).a1 = (L1.getD v4 R_ii.z).a1)) then
                some (.inr (.r0 (((v4 : Nat) : Int)) ((120 : Int)) : check_scan_aims_2R))
              else
              if (((v4 + 1) : Nat) : Int) ≤ (9223372036854775807 : Int) then
                some (.inl (.h1m0 ((v4 + 1)) : check_scan_aims_2X))
              else
              none
            else
            none
          else
          none
        else
        none
      else
      if (((v4 + 1) : Nat) : Int) ≤ (9223372036854775807 : Int) then
        some (.inl (.h1m0 ((v4 + 1)) : check_scan_aims_2X))
      else
      none
    )
  else
  some (.inr (.r0 (a4) (a5) : check_scan_aims_2R))

def check_scan_aims_2Step (L0 : List R_iiii) (L1 : List R_ii) (L2 : List Int) (a3 : Int) (a4 : Int) (a5 : Int) (N : Nat) : check_scan_aims_2X → Option (check_scan_aims_2X ⊕ check_scan_aims_2R)
  | .h1m0 v4 => check_scan_aims_2_h1m0 L0 L1 L2 a3 a4 a5 N v4

def check_scan_aims_2In (L0 : List R_iiii) (L1 : List R_ii) (L2 : List Int) (a3 : Int) (a4 : Int) (a5 : Int) (N : Nat) : Option (check_scan_aims_2X ⊕ check_scan_aims_2R) :=
  some (.inl (.h1m0 (0) : check_scan_aims_2X))

def check_scan_aims_2 (L0 : List R_iiii) (L1 : List R_ii) (L2 : List Int) (a3 : Int) (a4 : Int) (a5 : Int) (N : Nat) : Option check_scan_aims_2R := goM (check_scan_aims_2Step L0 L1 L2 a3 a4 a5 N) N (check_scan_aims_2In L0 L1 L2 a3 a4 a5 N)

/-- (*gantlet/check.scan).aims -/
inductive check_scan_aims_3R where
  | r0 (w6 : Int) (w7 : Int)

inductive check_scan_aims_3X where
  | h1m0 (v6 : Nat)

def check_scan_aims_3_h1m0 (L0 : List R_ii) (L1 : List R_iiii) (L2 : List R_ii) (L3 : List Int) (L4 : List Int) (a5 : Int) (a6 : Int) (a7 : Int) (N : Nat) (v6 : Nat) : Option (check_scan_aims_3X ⊕ check_scan_aims_3R) :=
  if ((v6 : Nat) : Int) < ((L1.length : Nat) : Int) then
    ((instr_Target ((L1.getD v6 R_iiii.z).a0) ((L1.getD v6 R_iiii.z).a1) ((L1.getD v6 R_iiii.z).a2) ((L1.getD v6 R_iiii.z).a3) N).bind fun r => match r with
    | .r0 y1_0 y1_1 =>
      if y1_1 = true then
        if ((L1.length : Nat) : Int) < y1_0 then
          some (.inr (.r0 (((v6 : Nat) : Int)) ((120 : Int)) : check_scan_aims_3R))
        else
        if (0 : Int) ≤ y1_0 then
          if (y1_0).toNat < L2.length then
            if v6 < L2.length then
              if ¬ (((L2.getD (y1_0).toNat R_ii.z).a0 = (L2.getD v6 R_ii.z).a0 ∧ (L2.getD (y1_0).toNat R_ii.z).a1 = (L2.getD v6 R_ii.z).a1)) then
                some (.inr (.r0 (((v6 : Nat) : Int)) ((120 : Int)) : check_scan_aims_3R))
              else
              if (((v6 + 1) : Nat) : Int) ≤ (9223372036854775807 : Int) then
                some (.inl (.h1m0 ((v6 + 1)) : check_scan_aims_3X))
              else
              none
            else
            none
          else
          none
        else
        none
      else
      if (((v6 + 1) : Nat) : Int) ≤ (9223372036854775807 : Int) then
        some (.inl (.h1m0 ((v6 + 1)) : check_scan_aims_3X))
      else
      none
    )
  else
  some (.inr (.r0 (a6) (a7) : check_scan_aims_3R))

def check_scan_aims_3Step (L0 : List R_ii) (L1 : List R_iiii) (L2 : List R_ii) (L3 : List Int) (L4 : List Int) (a5 : Int) (a6 : Int) (a7 : Int) (N : Nat) : check_scan_aims_3X → Option (check_scan_aims_3X ⊕ check_scan_aims_3R)
  | .h1m0 v6 => check_scan_aims_3_h1m0 L0 L1 L2 L3 L4 a5 a6 a7 N v6

def check_scan_aims_3In (L0 : List R_ii) (L1 : List R_iiii) (L2 : List R_ii) (L3 : List Int) (L4 : List Int) (a5 : Int) (a6 : Int) (a7 : Int) (N : Nat) : Option (check_scan_aims_3X ⊕ check_scan_aims_3R) :=
  some (.inl (.h1m0 (0) : check_scan_aims_3X))

def check_scan_aims_3 (L0 : List R_ii) (L1 : List R_iiii) (L2 : List R_ii) (L3 : List Int) (L4 : List Int) (a5 : Int) (a6 : Int) (a7 : Int) (N : Nat) : Option check_scan_aims_3R := goM (check_scan_aims_3Step L0 L1 L2 L3 L4 a5 a6 a7 N) N (check_scan_aims_3In L0 L1 L2 L3 L4 a5 a6 a7 N)

/-- gantlet/check.look -/
inductive check_lookR where
  | r0 (w3 : Int)
  | r1 (w3 : Int) (w4 : Int)
  | r2 (w1 : List R_ii) (w2 : List R_ii) (w3 : List Int) (w4 : List Int) (w5 : Int) (w6 : Int) (w7 : Int)
  | r3 (w1 : List R_ii) (w2 : List Int) (w4 : Int) (w5 : Int)

inductive check_lookX where
  | h1m0
  | h1m1 (v2 : Nat) (v3 : List R_ii) (v4 : List R_ii) (v5 : List Int) (v6 : List Int) (v7 : Int)
  | h1m2 (v2 : Nat) (v3 : List R_ii) (v4 : List Int)

def check_look_h1m0 (L0 : List R_iiii) (N : Nat) : Option (check_lookX ⊕ check_lookR) :=
  if (0 : Int) < ((L0.length : Nat) : Int) then
    ((check_scan_refuse ((L0.getD 0 R_iiii.z).a0) ((L0.getD 0 R_iiii.z).a1) ((L0.getD 0 R_iiii.z).a2) ((L0.getD 0 R_iiii.z).a3) (L0) ((0 : Int)) ((-1 : Int)) ((0 : Int)) N).bind fun r => match r with
    | .r0 y1_0 =>
      if ¬ (y1_0 = (0 : Int)) then
        some (.inr (.r0 (y1_0) : check_lookR))
      else
      ((check_scan_take ((0 : Int)) ((L0.getD 0 R_iiii.z).a0) (L0) ((0 : Int)) ((-1 : Int)) ((0 : Int)) N).bind fun r => match r with
      | .r0 =>
        some (.inl (.h1m1 (1) (([(⟨(0 : Int), (-1 : Int)⟩ : R_ii)] : List R_ii)) (([(⟨(-1 : Int), (0 : Int)⟩ : R_ii)] : List R_ii)) (([(-1 : Int)] : List Int)) (([(0 : Int)] : List Int)) ((if (1 : Int) > (0 : Int) then (1 : Int) else (0 : Int))) : check_lookX))
      | .r1 =>
        some (.inl (.h1m2 (1) (([(⟨(-1 : Int), (0 : Int)⟩ : R_ii)] : List R_ii)) (([(-1 : Int)] : List Int)) : check_lookX))
      )
    )
  else
  ((check_scan_aims (L0) (([(⟨(-1 : Int), (0 : Int)⟩ : R_ii)] : List R_ii)) ((0 : Int)) ((-1 : Int)) ((0 : Int)) N).bind fun r => match r with
  | .r0 y1_0 y1_1 =>
    some (.inr (.r1 (y1_0) (y1_1) : check_lookR))
  )

def check_look_h1m1 (L0 : List R_iiii) (N : Nat) (v2 : Nat) (v3 : List R_ii) (v4 : List R_ii) (v5 : List Int) (v6 : List Int) (v7 : Int) : Option (check_lookX ⊕ check_lookR) :=
  if ((v2 : Nat) : Int) < ((L0.length : Nat) : Int) then
    ((check_scan_refuse_2 ((L0.getD v2 R_iiii.z).a0) ((L0.getD v2 R_iiii.z).a1) ((L0.getD v2 R_iiii.z).a2) ((L0.getD v2 R_iiii.z).a3) (v3) (L0) (v4) (v5) (v6) (v7) ((-1 : Int)) ((0 : Int)) N).bind fun r => match r with
    | .r0 y1_0 =>
      if ¬ (y1_0 = (0 : Int)) then
        some (.inr (.r2 (v3) (v4) (v5) (v6) (v7) (((v2 : Nat) : Int)) (y1_0) : check_lookR))
      else
      ((check_scan_take_2 (((v2 : Nat) : Int)) ((L0.getD v2 R_iiii.z).a0) (v3) (L0) (v4) (v5) (v6) (v7) ((-1 : Int)) ((0 : Int)) N).bind fun r => match r with
      | .r0 y3_0 =>
        if (((v2 + 1) : Nat) : Int) ≤ (9223372036854775807 : Int) then
          some (.inl (.h1m1 ((v2 + 1)) ((v3 ++ ([(⟨((v2 : Nat) : Int), (-1 : Int)⟩ : R_ii)] : List R_ii))) (y3_0) ((v5 ++ ([(-1 : Int)] : List Int))) ((v6 ++ ([((v2 : Nat) : Int)] : List Int))) ((if (((v3.length + 1) : Nat) : Int) > v7 then (((v3.length + 1) : Nat) : Int) else v7)) : check_lookX))
        else
        none
      | .r1 y3_0 y3_1 y3_2 y3_3 =>
        if (((v2 + 1) : Nat) : Int) ≤ (9223372036854775807 : Int) then
          some (.inl (.h1m1 ((v2 + 1)) (y3_0) (y3_1) (y3_2) (v6) (y3_3) : check_lookX))
        else
        none
      | .r2 y3_0 y3_1 y3_2 =>
        if (((v2 + 1) : Nat) : Int) ≤ (9223372036854775807 : Int) then
          some (.inl (.h1m1 ((v2 + 1)) (y3_0) (y3_1) (y3_2) (v6) (v7) : check_lookX))
        else
        none
      )
    )
  else
  if (0 : Int) < ((v3.length : Nat) : Int) then
    some (.inr (.r2 (v3) (v4) (v5) (v6) (v7) (((L0.length : Nat) : Int)) ((120 : Int)) : check_lookR))
  else
  if v4.length ≤ 100000 then
    ((check_scan_aims_3 (v3) (L0) ((v4 ++ ([(⟨(-1 : Int), (0 : Int)⟩ : R_ii)] : List R_ii))) (v5) (v6) (v7) ((-1 : Int)) ((0 : Int)) N).bind fun r => match r with
    | .r0 y3_0 y3_1 =>
      some (.inr (.r2 (v3) ((v4 ++ ([(⟨(-1 : Int), (0 : Int)⟩ : R_ii)] : List R_ii))) (v5) (v6) (v7) (y3_0) (y3_1) : check_lookR))
    )
  else
  none

def check_look_h1m2 (L0 : List R_iiii) (N : Nat) (v2 : Nat) (v3 : List R_ii) (v4 : List Int) : Option (check_lookX ⊕ check_lookR) :=
  if ((v2 : Nat) : Int) < ((L0.length : Nat) : Int) then
    ((check_scan_refuse_3 ((L0.getD v2 R_iiii.z).a0) ((L0.getD v2 R_iiii.z).a1) ((L0.getD v2 R_iiii.z).a2) ((L0.getD v2 R_iiii.z).a3) (L0) (v3) (v4) ((0 : Int)) ((-1 : Int)) ((0 : Int)) N).bind fun r => match r with
    | .r0 y1_0 =>
      if ¬ (y1_0 = (0 : Int)) then
        some (.inr (.r3 (v3) (v4) (((v2 : Nat) : Int)) (y1_0) : check_lookR))
      else
      ((check_scan_take_3 (((v2 : Nat) : Int)) ((L0.getD v2 R_iiii.z).a0) (L0) (v3) (v4) ((0 : Int)) ((-1 : Int)) ((0 : Int)) N).bind fun r => match r with
      | .r0 =>
        if (((v2 + 1) : Nat) : Int) ≤ (9223372036854775807 : Int) then
          some (.inl (.h1m1 ((v2 + 1)) (([(⟨((v2 : Nat) : Int), (-1 : Int)⟩ : R_ii)] : List R_ii)) ((v3 ++ ([(⟨(-1 : Int), (0 : Int)⟩ : R_ii)] : List R_ii))) ((v4 ++ ([(-1 : Int)] : List Int))) (([((v2 : Nat) : Int)] : List Int)) ((if (1 : Int) > (0 : Int) then (1 : Int) else (0 : Int))) : check_lookX))
        else
        none
      | .r1 =>
        if (((v2 + 1) : Nat) : Int) ≤ (9223372036854775807 : Int) then
          some (.inl (.h1m2 ((v2 + 1)) ((v3 ++ ([(⟨(-1 : Int), (0 : Int)⟩ : R_ii)] : List R_ii))) ((v4 ++ ([(-1 : Int)] : List Int))) : check_lookX))
        else
        none
      )
    )
  else
  if v3.length ≤ 100000 then
    ((check_scan_aims_2 (L0) ((v3 ++ ([(⟨(-1 : Int), (0 : Int)⟩ : R_ii)] : List R_ii))) (v4) ((0 : Int)) ((-1 : Int)) ((0 : Int)) N).bind fun r => match r with
    | .r0 y2_0 y2_1 =>
      some (.inr (.r3 ((v3 ++ ([(⟨(-1 : Int), (0 : Int)⟩ : R_ii)] : List R_ii))) (v4) (y2_0) (y2_1) : check_lookR))
    )
  else
  none

def check_lookStep (L0 : List R_iiii) (N : Nat) : check_lookX → Option (check_lookX ⊕ check_lookR)
  | .h1m0 => check_look_h1m0 L0 N
  | .h1m1 v2 v3 v4 v5 v6 v7 => check_look_h1m1 L0 N v2 v3 v4 v5 v6 v7
  | .h1m2 v2 v3 v4 => check_look_h1m2 L0 N v2 v3 v4

def check_lookIn (L0 : List R_iiii) (N : Nat) : Option (check_lookX ⊕ check_lookR) :=
  if ((L0.length : Nat) : Int) = (0 : Int) then
    some (.inr (.r0 ((120 : Int)) : check_lookR))
  else
  if (512 : Int) < ((L0.length : Nat) : Int) then
    some (.inr (.r0 ((120 : Int)) : check_lookR))
  else
  some (.inl (.h1m0 : check_lookX))

def check_look (L0 : List R_iiii) (N : Nat) : Option check_lookR := goM (check_lookStep L0 N) N (check_lookIn L0 N)

/-- gantlet/check.Check -/
inductive check_CheckR where
  | r0 (w1 : Int)

def check_Check (L0 : List R_iiii) (N : Nat) : Option check_CheckR :=
  ((check_look (L0) N).bind fun r => match r with
  | .r0 y0_0 =>
    some (.r0 (y0_0) : check_CheckR)
  | .r1 y0_0 y0_1 =>
    some (.r0 (y0_1) : check_CheckR)
  | .r2 y0_0 y0_1 y0_2 y0_3 y0_4 y0_5 y0_6 =>
    some (.r0 (y0_6) : check_CheckR)
  | .r3 y0_0 y0_1 y0_2 y0_3 =>
    some (.r0 (y0_3) : check_CheckR)
  )

/-- gantlet/check.look -/
inductive check_look_2R where
  | r0

def check_look_2  (N : Nat) : Option check_look_2R :=
  some (.r0 : check_look_2R)

/-- gantlet/check.Check -/
inductive check_Check_2R where
  | r0

def check_Check_2  (N : Nat) : Option check_Check_2R :=
  ((check_look_2 N).bind fun r => match r with
  | .r0 =>
    some (.r0 : check_Check_2R)
  )

/-- gantlet/check.Wrong -/
inductive check_WrongR where
  | r0 (w1 : Int)

def check_Wrong (L0 : List R_iiii) (N : Nat) : Option check_WrongR :=
  ((check_look (L0) N).bind fun r => match r with
  | .r0 y0_0 =>
    some (.r0 ((0 : Int)) : check_WrongR)
  | .r1 y0_0 y0_1 =>
    some (.r0 (y0_0) : check_WrongR)
  | .r2 y0_0 y0_1 y0_2 y0_3 y0_4 y0_5 y0_6 =>
    some (.r0 (y0_5) : check_WrongR)
  | .r3 y0_0 y0_1 y0_2 y0_3 =>
    some (.r0 (y0_2) : check_WrongR)
  )

/-- gantlet/check.Depth -/
inductive check_DepthR where
  | r0 (w1 : Int)

def check_Depth (L0 : List R_iiii) (N : Nat) : Option check_DepthR :=
  ((check_look (L0) N).bind fun r => match r with
  | .r0 y0_0 =>
    some (.r0 ((0 : Int)) : check_DepthR)
  | .r1 y0_0 y0_1 =>
    some (.r0 ((0 : Int)) : check_DepthR)
  | .r2 y0_0 y0_1 y0_2 y0_3 y0_4 y0_5 y0_6 =>
    if ¬ (y0_6 = (0 : Int)) then
      some (.r0 ((0 : Int)) : check_DepthR)
    else
    some (.r0 (y0_4) : check_DepthR)
  | .r3 y0_0 y0_1 y0_2 y0_3 =>
    some (.r0 ((0 : Int)) : check_DepthR)
  )

/-- gantlet/gantletlaw12.CheckBounds -/
inductive law12_CheckBoundsR where
  | r0 (w0 : Bool)

inductive law12_CheckBoundsX where
  | h1m0
  | h1m1 (v2 : List R_iiii) (v3 : Nat)
  | h2m0
  | h2m1 (v1 : List R_iiii)
  | h2m2 (v2 : List R_iiii) (v3 : Nat)
  | h2m3 (v1 : List R_iiii) (v3 : List R_iiii) (v4 : Nat)
  | h3m0 (v2 : List R_iiii) (v3 : Nat)
  | h3m1 (v1 : List R_iiii) (v3 : List R_iiii) (v4 : Nat)

def law12_CheckBounds_h1m0 (a0 : Int) (a1 : Int) (N : Nat) : Option (law12_CheckBoundsX ⊕ law12_CheckBoundsR) :=
  if (0 : Int) < (IntKind.i64.wrap ((511 : Int) + (Int.tmod a0 (3 : Int)))) then
    some (.inl (.h1m1 (([(⟨(20 : Int), (0 : Int), (0 : Int), (0 : Int)⟩ : R_iiii)] : List R_iiii)) (1) : law12_CheckBoundsX))
  else
  if (-9223372036854775808 : Int) ≤ a1 then
    if a1 ≤ (9223372036854775807 : Int) then
      some (.inl (.h2m0 : law12_CheckBoundsX))
    else
    none
  else
  none

def law12_CheckBounds_h1m1 (a0 : Int) (a1 : Int) (N : Nat) (v2 : List R_iiii) (v3 : Nat) : Option (law12_CheckBoundsX ⊕ law12_CheckBoundsR) :=
  if ((v3 : Nat) : Int) < (IntKind.i64.wrap ((511 : Int) + (Int.tmod a0 (3 : Int)))) then
    if v2.length ≤ 100000 then
      some (.inl (.h1m1 ((v2 ++ ([(⟨(20 : Int), (0 : Int), (0 : Int), (0 : Int)⟩ : R_iiii)] : List R_iiii))) ((v3 + 1)) : law12_CheckBoundsX))
    else
    none
  else
  if (-9223372036854775808 : Int) ≤ a1 then
    if a1 ≤ (9223372036854775807 : Int) then
      some (.inl (.h2m1 (v2) : law12_CheckBoundsX))
    else
    none
  else
  none

def law12_CheckBounds_h2m0 (a0 : Int) (a1 : Int) (N : Nat) : Option (law12_CheckBoundsX ⊕ law12_CheckBoundsR) :=
  if (0 : Int) < (Int.tmod a1 (12 : Int)) then
    some (.inl (.h2m2 (([(⟨(15 : Int), (0 : Int), (0 : Int), (0 : Int)⟩ : R_iiii)] : List R_iiii)) (1) : law12_CheckBoundsX))
  else
  some (.inl (.h3m0 (([(⟨(19 : Int), (0 : Int), (0 : Int), (0 : Int)⟩ : R_iiii)] : List R_iiii)) (0) : law12_CheckBoundsX))

def law12_CheckBounds_h2m1 (a0 : Int) (a1 : Int) (N : Nat) (v1 : List R_iiii) : Option (law12_CheckBoundsX ⊕ law12_CheckBoundsR) :=
  if (0 : Int) < (Int.tmod a1 (12 : Int)) then
    some (.inl (.h2m3 (v1) (([(⟨(15 : Int), (0 : Int), (0 : Int), (0 : Int)⟩ : R_iiii)] : List R_iiii)) (1) : law12_CheckBoundsX))
  else
  some (.inl (.h3m1 (v1) (([(⟨(19 : Int), (0 : Int), (0 : Int), (0 : Int)⟩ : R_iiii)] : List R_iiii)) (0) : law12_CheckBoundsX))

def law12_CheckBounds_h2m2 (a0 : Int) (a1 : Int) (N : Nat) (v2 : List R_iiii) (v3 : Nat) : Option (law12_CheckBoundsX ⊕ law12_CheckBoundsR) :=
  if ((v3 : Nat) : Int) < (Int.tmod a1 (12 : Int)) then
    if v2.length ≤ 100000 then
      if (((v3 + 1) : Nat) : Int) ≤ (9223372036854775807 : Int) then
        some (.inl (.h2m2 ((v2 ++ ([(⟨(15 : Int), (0 : Int), (0 : Int), (0 : Int)⟩ : R_iiii)] : List R_iiii))) ((v3 + 1)) : law12_CheckBoundsX))
      else
      none
    else
    none
  else
  if v2.length ≤ 100000 then
    some (.inl (.h3m0 ((v2 ++ ([(⟨(19 : Int), (0 : Int), (0 : Int), (0 : Int)⟩ : R_iiii)] : List R_iiii))) (0) : law12_CheckBoundsX))
  else
  none

def law12_CheckBounds_h2m3 (a0 : Int) (a1 : Int) (N : Nat) (v1 : List R_iiii) (v3 : List R_iiii) (v4 : Nat) : Option (law12_CheckBoundsX ⊕ law12_CheckBoundsR) :=
  if ((v4 : Nat) : Int) < (Int.tmod a1 (12 : Int)) then
    if v3.length ≤ 100000 then
      if (((v4 + 1) : Nat) : Int) ≤ (9223372036854775807 : Int) then
        some (.inl (.h2m3 (v1) ((v3 ++ ([(⟨(15 : Int), (0 : Int), (0 : Int), (0 : Int)⟩ : R_iiii)] : List R_iiii))) ((v4 + 1)) : law12_CheckBoundsX))
      else
      none
    else
    none
  else
  if v3.length ≤ 100000 then
    some (.inl (.h3m1 (v1) ((v3 ++ ([(⟨(19 : Int), (0 : Int), (0 : Int), (0 : Int)⟩ : R_iiii)] : List R_iiii))) (0) : law12_CheckBoundsX))
  else
  none

def law12_CheckBounds_h3m0 (a0 : Int) (a1 : Int) (N : Nat) (v2 : List R_iiii) (v3 : Nat) : Option (law12_CheckBoundsX ⊕ law12_CheckBoundsR) :=
  if ((v3 : Nat) : Int) < (Int.tmod a1 (12 : Int)) then
    if v2.length ≤ 100000 then
      if (((v3 + 1) : Nat) : Int) ≤ (9223372036854775807 : Int) then
        some (.inl (.h3m0 ((v2 ++ ([(⟨(17 : Int), (0 : Int), (0 : Int), (0 : Int)⟩ : R_iiii)] : List R_iiii))) ((v3 + 1)) : law12_CheckBoundsX))
      else
      none
    else
    none
  else
  ((check_Check (v2) N).bind fun r => match r with
  | .r0 y1_0 =>
    if (8 : Int) < (Int.tmod a1 (12 : Int)) then
      ((check_Check_2 N).bind fun r => match r with
      | .r0 =>
        if (IntKind.i64.wrap ((511 : Int) + (Int.tmod a0 (3 : Int)))) ≤ (512 : Int) then
          some (.inr (.r0 (false) : law12_CheckBoundsR))
        else
        if y1_0 = (140 : Int) then
          ((check_Wrong (v2) N).bind fun r => match r with
          | .r0 y6_0 =>
            if y6_0 = (8 : Int) then
              ((check_Depth (v2) N).bind fun r => match r with
              | .r0 y8_0 =>
                if y8_0 = (0 : Int) then
                  some (.inr (.r0 (true) : law12_CheckBoundsR))
                else
                some (.inr (.r0 (false) : law12_CheckBoundsR))
              )
            else
            some (.inr (.r0 (false) : law12_CheckBoundsR))
          )
        else
        some (.inr (.r0 (false) : law12_CheckBoundsR))
      )
    else
    ((check_Check_2 N).bind fun r => match r with
    | .r0 =>
      if (IntKind.i64.wrap ((511 : Int) + (Int.tmod a0 (3 : Int)))) ≤ (512 : Int) then
        some (.inr (.r0 (false) : law12_CheckBoundsR))
      else
      if y1_0 = (0 : Int) then
        ((check_Wrong (v2) N).bind fun r => match r with
        | .r0 y6_0 =>
          if y6_0 = (-1 : Int) then
            ((check_Depth (v2) N).bind fun r => match r with
            | .r0 y8_0 =>
              if y8_0 = (Int.tmod a1 (12 : Int)) then
                some (.inr (.r0 (true) : law12_CheckBoundsR))
              else
              some (.inr (.r0 (false) : law12_CheckBoundsR))
            )
          else
          some (.inr (.r0 (false) : law12_CheckBoundsR))
        )
      else
      some (.inr (.r0 (false) : law12_CheckBoundsR))
    )
  )

def law12_CheckBounds_h3m1 (a0 : Int) (a1 : Int) (N : Nat) (v1 : List R_iiii) (v3 : List R_iiii) (v4 : Nat) : Option (law12_CheckBoundsX ⊕ law12_CheckBoundsR) :=
  if ((v4 : Nat) : Int) < (Int.tmod a1 (12 : Int)) then
    if v3.length ≤ 100000 then
      if (((v4 + 1) : Nat) : Int) ≤ (9223372036854775807 : Int) then
        some (.inl (.h3m1 (v1) ((v3 ++ ([(⟨(17 : Int), (0 : Int), (0 : Int), (0 : Int)⟩ : R_iiii)] : List R_iiii))) ((v4 + 1)) : law12_CheckBoundsX))
      else
      none
    else
    none
  else
  ((check_Check (v3) N).bind fun r => match r with
  | .r0 y1_0 =>
    if (8 : Int) < (Int.tmod a1 (12 : Int)) then
      ((check_Check (v1) N).bind fun r => match r with
      | .r0 y3_0 =>
        if y3_0 = (0 : Int) then
          if (IntKind.i64.wrap ((511 : Int) + (Int.tmod a0 (3 : Int)))) ≤ (512 : Int) then
            if y1_0 = (140 : Int) then
              ((check_Wrong (v3) N).bind fun r => match r with
              | .r0 y7_0 =>
                if y7_0 = (8 : Int) then
                  ((check_Depth (v3) N).bind fun r => match r with
                  | .r0 y9_0 =>
                    if y9_0 = (0 : Int) then
                      some (.inr (.r0 (true) : law12_CheckBoundsR))
                    else
                    some (.inr (.r0 (false) : law12_CheckBoundsR))
                  )
                else
                some (.inr (.r0 (false) : law12_CheckBoundsR))
              )
            else
            some (.inr (.r0 (false) : law12_CheckBoundsR))
          else
          some (.inr (.r0 (false) : law12_CheckBoundsR))
        else
        if (IntKind.i64.wrap ((511 : Int) + (Int.tmod a0 (3 : Int)))) ≤ (512 : Int) then
          some (.inr (.r0 (false) : law12_CheckBoundsR))
        else
        if y1_0 = (140 : Int) then
          ((check_Wrong (v3) N).bind fun r => match r with
          | .r0 y7_0 =>
            if y7_0 = (8 : Int) then
              ((check_Depth (v3) N).bind fun r => match r with
              | .r0 y9_0 =>
                if y9_0 = (0 : Int) then
                  some (.inr (.r0 (true) : law12_CheckBoundsR))
                else
                some (.inr (.r0 (false) : law12_CheckBoundsR))
              )
            else
            some (.inr (.r0 (false) : law12_CheckBoundsR))
          )
        else
        some (.inr (.r0 (false) : law12_CheckBoundsR))
      )
    else
    ((check_Check (v1) N).bind fun r => match r with
    | .r0 y3_0 =>
      if y3_0 = (0 : Int) then
        if (IntKind.i64.wrap ((511 : Int) + (Int.tmod a0 (3 : Int)))) ≤ (512 : Int) then
          if y1_0 = (0 : Int) then
            ((check_Wrong (v3) N).bind fun r => match r with
            | .r0 y7_0 =>
              if y7_0 = (-1 : Int) then
                ((check_Depth (v3) N).bind fun r => match r with
                | .r0 y9_0 =>
                  if y9_0 = (Int.tmod a1 (12 : Int)) then
                    some (.inr (.r0 (true) : law12_CheckBoundsR))
                  else
                  some (.inr (.r0 (false) : law12_CheckBoundsR))
                )
              else
              some (.inr (.r0 (false) : law12_CheckBoundsR))
            )
          else
          some (.inr (.r0 (false) : law12_CheckBoundsR))
        else
        some (.inr (.r0 (false) : law12_CheckBoundsR))
      else
      if (IntKind.i64.wrap ((511 : Int) + (Int.tmod a0 (3 : Int)))) ≤ (512 : Int) then
        some (.inr (.r0 (false) : law12_CheckBoundsR))
      else
      if y1_0 = (0 : Int) then
        ((check_Wrong (v3) N).bind fun r => match r with
        | .r0 y7_0 =>
          if y7_0 = (-1 : Int) then
            ((check_Depth (v3) N).bind fun r => match r with
            | .r0 y9_0 =>
              if y9_0 = (Int.tmod a1 (12 : Int)) then
                some (.inr (.r0 (true) : law12_CheckBoundsR))
              else
              some (.inr (.r0 (false) : law12_CheckBoundsR))
            )
          else
          some (.inr (.r0 (false) : law12_CheckBoundsR))
        )
      else
      some (.inr (.r0 (false) : law12_CheckBoundsR))
    )
  )

def law12_CheckBoundsStep (a0 : Int) (a1 : Int) (N : Nat) : law12_CheckBoundsX → Option (law12_CheckBoundsX ⊕ law12_CheckBoundsR)
  | .h1m0 => law12_CheckBounds_h1m0 a0 a1 N
  | .h1m1 v2 v3 => law12_CheckBounds_h1m1 a0 a1 N v2 v3
  | .h2m0 => law12_CheckBounds_h2m0 a0 a1 N
  | .h2m1 v1 => law12_CheckBounds_h2m1 a0 a1 N v1
  | .h2m2 v2 v3 => law12_CheckBounds_h2m2 a0 a1 N v2 v3
  | .h2m3 v1 v3 v4 => law12_CheckBounds_h2m3 a0 a1 N v1 v3 v4
  | .h3m0 v2 v3 => law12_CheckBounds_h3m0 a0 a1 N v2 v3
  | .h3m1 v1 v3 v4 => law12_CheckBounds_h3m1 a0 a1 N v1 v3 v4

def law12_CheckBoundsIn (a0 : Int) (a1 : Int) (N : Nat) : Option (law12_CheckBoundsX ⊕ law12_CheckBoundsR) :=
  if (-9223372036854775808 : Int) ≤ a0 then
    if a0 ≤ (9223372036854775807 : Int) then
      some (.inl (.h1m0 : law12_CheckBoundsX))
    else
    none
  else
  none

def law12_CheckBounds (a0 : Int) (a1 : Int) (N : Nat) : Option law12_CheckBoundsR := goM (law12_CheckBoundsStep a0 a1 N) N (law12_CheckBoundsIn a0 a1 N)
end Ev
end Go.Proofs.Ytcpgeokpkbmkiaa
