/- Records, and the program's functions as plain ones. -/
import Derived.Test.YtpgbennpiihajaaFm
namespace Go.Proofs.Ytpgbennpiihajaa
open Go.RowKit
namespace Ev
set_option linter.unusedVariables false
structure R_ii where
  a0 : Int
  a1 : Int
def R_ii.z : R_ii := ⟨0, 0⟩
structure R_iiii where
  a0 : Int
  a1 : Int
  a2 : Int
  a3 : Int
def R_iiii.z : R_iiii := ⟨0, 0, 0, 0⟩
/-- gantlet/instr.kind -/
inductive instr_kindR where
  | r0
  | r1
  | r2
  | r3
  | r4
  | r5
  | r6
  | r7
  | r8
  | r9
  | r10
  | r11
  | r12
  | r13
  | r14
  | r15
  | r16
  | r17
  | r18
  | r19
  | r20

def instr_kind (a0 : Int) (N : Nat) : Option instr_kindR :=
  if a0 < (0 : Int) then
    some (.r0 : instr_kindR)
  else
  if (21 : Int) ≤ a0 then
    some (.r0 : instr_kindR)
  else
  if a0 = (0 : Int) then
    some (.r0 : instr_kindR)
  else
  if a0 = (1 : Int) then
    some (.r1 : instr_kindR)
  else
  if a0 = (2 : Int) then
    some (.r2 : instr_kindR)
  else
  if a0 = (3 : Int) then
    some (.r3 : instr_kindR)
  else
  if a0 = (4 : Int) then
    some (.r4 : instr_kindR)
  else
  if a0 = (5 : Int) then
    some (.r5 : instr_kindR)
  else
  if a0 = (6 : Int) then
    some (.r6 : instr_kindR)
  else
  if a0 = (7 : Int) then
    some (.r7 : instr_kindR)
  else
  if a0 = (8 : Int) then
    some (.r8 : instr_kindR)
  else
  if a0 = (9 : Int) then
    some (.r9 : instr_kindR)
  else
  if a0 = (10 : Int) then
    some (.r10 : instr_kindR)
  else
  if a0 = (11 : Int) then
    some (.r11 : instr_kindR)
  else
  if a0 = (12 : Int) then
    some (.r12 : instr_kindR)
  else
  if a0 = (13 : Int) then
    some (.r13 : instr_kindR)
  else
  if a0 = (14 : Int) then
    some (.r14 : instr_kindR)
  else
  if a0 = (15 : Int) then
    some (.r15 : instr_kindR)
  else
  if a0 = (16 : Int) then
    some (.r16 : instr_kindR)
  else
  if a0 = (17 : Int) then
    some (.r17 : instr_kindR)
  else
  if a0 = (18 : Int) then
    some (.r18 : instr_kindR)
  else
  if a0 = (19 : Int) then
    some (.r19 : instr_kindR)
  else
  some (.r20 : instr_kindR)

/-- (gantlet/instr.shape).fits -/
inductive instr_shape_fitsR where
  | r0 (w0 : Bool)

def instr_shape_fits (a0 : Int) (a1 : Int) (a2 : Int) (N : Nat) : Option instr_shape_fitsR :=
  if a0 = (1 : Int) then
    if (0 : Int) ≤ a1 then
      if a1 ≤ (7 : Int) then
        some (.r0 (true) : instr_shape_fitsR)
      else
      some (.r0 (false) : instr_shape_fitsR)
    else
    some (.r0 (false) : instr_shape_fitsR)
  else
  if a0 = (2 : Int) then
    if (0 : Int) ≤ a1 then
      if a1 ≤ (15 : Int) then
        some (.r0 (true) : instr_shape_fitsR)
      else
      some (.r0 (false) : instr_shape_fitsR)
    else
    some (.r0 (false) : instr_shape_fitsR)
  else
  if a0 = (3 : Int) then
    if (1 : Int) ≤ a1 then
      if a1 ≤ (16 : Int) then
        some (.r0 (true) : instr_shape_fitsR)
      else
      some (.r0 (false) : instr_shape_fitsR)
    else
    some (.r0 (false) : instr_shape_fitsR)
  else
  if a0 = (4 : Int) then
    if (0 : Int) ≤ a1 then
      if a1 ≤ (512 : Int) then
        some (.r0 (true) : instr_shape_fitsR)
      else
      some (.r0 (false) : instr_shape_fitsR)
    else
    some (.r0 (false) : instr_shape_fitsR)
  else
  if a0 = (5 : Int) then
    if (0 : Int) ≤ a2 then
      if a2 ≤ (64 : Int) then
        if (0 : Int) ≤ a1 then
          if a1 ≤ (IntKind.i64.wrap ((IntKind.i64.wrap ((1 : Int) * (2 ^ (a2).toNat : Int))) - (1 : Int))) then
            some (.r0 (true) : instr_shape_fitsR)
          else
          some (.r0 (false) : instr_shape_fitsR)
        else
        some (.r0 (false) : instr_shape_fitsR)
      else
      none
    else
    none
  else
  if a0 = (6 : Int) then
    if (-1099511627776 : Int) ≤ a1 then
      if a1 ≤ (1099511627776 : Int) then
        some (.r0 (true) : instr_shape_fitsR)
      else
      some (.r0 (false) : instr_shape_fitsR)
    else
    some (.r0 (false) : instr_shape_fitsR)
  else
  if (0 : Int) ≤ a1 then
    if a1 ≤ (0 : Int) then
      some (.r0 (true) : instr_shape_fitsR)
    else
    some (.r0 (false) : instr_shape_fitsR)
  else
  some (.r0 (false) : instr_shape_fitsR)

/-- gantlet/instr.Check -/
inductive instr_CheckR where
  | r0 (w0 : Int)

inductive instr_CheckX where
  | h1m0 (v1 : Nat) (v2 : Nat) (v3 : Nat)
  | h1m1 (v1 : Nat) (v2 : Nat) (v3 : Nat)
  | h1m2 (v1 : Nat) (v2 : Nat) (v3 : Nat)
  | h1m3 (v1 : Nat) (v2 : Nat) (v3 : Nat)

def instr_Check_h1m0 (a0 : Int) (a1 : Int) (a2 : Int) (a3 : Int) (N : Nat) (v1 : Nat) (v2 : Nat) (v3 : Nat) : Option (instr_CheckX ⊕ instr_CheckR) :=
  ((instr_shape_fits (((v1 : Nat) : Int)) (a1) ((0 : Int)) N).bind fun r => match r with
  | .r0 y0_0 =>
    if ¬ (y0_0 = true) then
      some (.inr (.r0 ((100 : Int)) : instr_CheckR))
    else
    some (.inl (.h1m1 (v1) (v2) (v3) : instr_CheckX))
  )

def instr_Check_h1m1 (a0 : Int) (a1 : Int) (a2 : Int) (a3 : Int) (N : Nat) (v1 : Nat) (v2 : Nat) (v3 : Nat) : Option (instr_CheckX ⊕ instr_CheckR) :=
  ((instr_shape_fits (((v2 : Nat) : Int)) (a2) (a1) N).bind fun r => match r with
  | .r0 y0_0 =>
    if ¬ (y0_0 = true) then
      some (.inr (.r0 ((100 : Int)) : instr_CheckR))
    else
    some (.inl (.h1m2 (v1) (v2) (v3) : instr_CheckX))
  )

def instr_Check_h1m2 (a0 : Int) (a1 : Int) (a2 : Int) (a3 : Int) (N : Nat) (v1 : Nat) (v2 : Nat) (v3 : Nat) : Option (instr_CheckX ⊕ instr_CheckR) :=
  ((instr_shape_fits (((v3 : Nat) : Int)) (a3) (a2) N).bind fun r => match r with
  | .r0 y0_0 =>
    if ¬ (y0_0 = true) then
      some (.inr (.r0 ((100 : Int)) : instr_CheckR))
    else
    some (.inl (.h1m3 (v1) (v2) (v3) : instr_CheckX))
  )

def instr_Check_h1m3 (a0 : Int) (a1 : Int) (a2 : Int) (a3 : Int) (N : Nat) (v1 : Nat) (v2 : Nat) (v3 : Nat) : Option (instr_CheckX ⊕ instr_CheckR) :=
  some (.inr (.r0 ((0 : Int)) : instr_CheckR))

def instr_CheckStep (a0 : Int) (a1 : Int) (a2 : Int) (a3 : Int) (N : Nat) : instr_CheckX → Option (instr_CheckX ⊕ instr_CheckR)
  | .h1m0 v1 v2 v3 => instr_Check_h1m0 a0 a1 a2 a3 N v1 v2 v3
  | .h1m1 v1 v2 v3 => instr_Check_h1m1 a0 a1 a2 a3 N v1 v2 v3
  | .h1m2 v1 v2 v3 => instr_Check_h1m2 a0 a1 a2 a3 N v1 v2 v3
  | .h1m3 v1 v2 v3 => instr_Check_h1m3 a0 a1 a2 a3 N v1 v2 v3

def instr_CheckIn (a0 : Int) (a1 : Int) (a2 : Int) (a3 : Int) (N : Nat) : Option (instr_CheckX ⊕ instr_CheckR) :=
  ((instr_kind (a0) N).bind fun r => match r with
  | .r0 =>
    some (.inr (.r0 ((100 : Int)) : instr_CheckR))
  | .r1 =>
    some (.inl (.h1m0 (1) (6) (0) : instr_CheckX))
  | .r2 =>
    some (.inl (.h1m0 (1) (0) (0) : instr_CheckX))
  | .r3 =>
    some (.inl (.h1m0 (1) (1) (0) : instr_CheckX))
  | .r4 =>
    some (.inl (.h1m0 (1) (1) (1) : instr_CheckX))
  | .r5 =>
    some (.inl (.h1m0 (1) (1) (1) : instr_CheckX))
  | .r6 =>
    some (.inl (.h1m0 (1) (1) (1) : instr_CheckX))
  | .r7 =>
    some (.inl (.h1m0 (1) (1) (1) : instr_CheckX))
  | .r8 =>
    some (.inl (.h1m0 (4) (0) (0) : instr_CheckX))
  | .r9 =>
    some (.inl (.h1m0 (1) (4) (0) : instr_CheckX))
  | .r10 =>
    some (.inl (.h1m0 (1) (0) (0) : instr_CheckX))
  | .r11 =>
    some (.inl (.h1m0 (1) (3) (5) : instr_CheckX))
  | .r12 =>
    some (.inl (.h1m0 (1) (0) (0) : instr_CheckX))
  | .r13 =>
    some (.inl (.h1m0 (1) (1) (2) : instr_CheckX))
  | .r14 =>
    some (.inl (.h1m0 (1) (2) (1) : instr_CheckX))
  | .r15 =>
    some (.inl (.h1m0 (0) (0) (0) : instr_CheckX))
  | .r16 =>
    some (.inl (.h1m0 (0) (0) (0) : instr_CheckX))
  | .r17 =>
    some (.inl (.h1m0 (0) (0) (0) : instr_CheckX))
  | .r18 =>
    some (.inl (.h1m0 (0) (0) (0) : instr_CheckX))
  | .r19 =>
    some (.inl (.h1m0 (1) (0) (0) : instr_CheckX))
  | .r20 =>
    some (.inl (.h1m0 (0) (0) (0) : instr_CheckX))
  )

def instr_Check (a0 : Int) (a1 : Int) (a2 : Int) (a3 : Int) (N : Nat) : Option instr_CheckR := goM (instr_CheckStep a0 a1 a2 a3 N) N (instr_CheckIn a0 a1 a2 a3 N)

/-- (*gantlet/check.scan).refuse -/
inductive check_scan_refuseR where
  | r0 (w2 : Int)

def check_scan_refuse (a0 : Int) (a1 : Int) (a2 : Int) (a3 : Int) (L5 : List R_iiii) (n6 : Nat) (n7 : Nat) (a8 : Int) (a9 : Int) (a10 : Int) (N : Nat) : Option check_scan_refuseR :=
  if a0 = (15 : Int) then
    ((instr_Check (a0) (a1) (a2) (a3) N).bind fun r => match r with
    | .r0 y1_0 =>
      if ¬ (y1_0 = (0 : Int)) then
        some (.r0 ((120 : Int)) : check_scan_refuseR)
      else
      some (.r0 ((0 : Int)) : check_scan_refuseR)
    )
  else
  if a0 = (16 : Int) then
    some (.r0 ((120 : Int)) : check_scan_refuseR)
  else
  if a0 = (17 : Int) then
    some (.r0 ((120 : Int)) : check_scan_refuseR)
  else
  if a0 = (18 : Int) then
    some (.r0 ((120 : Int)) : check_scan_refuseR)
  else
  ((instr_Check (a0) (a1) (a2) (a3) N).bind fun r => match r with
  | .r0 y5_0 =>
    if ¬ (y5_0 = (0 : Int)) then
      some (.r0 ((120 : Int)) : check_scan_refuseR)
    else
    some (.r0 ((0 : Int)) : check_scan_refuseR)
  )

/-- (*gantlet/check.stack).around -/
inductive check_stack_aroundR where
  | r0

def check_stack_around (L1 : List R_iiii) (n2 : Nat) (n3 : Nat) (a4 : Int) (a5 : Int) (a6 : Int) (N : Nat) : Option check_stack_aroundR :=
  some (.r0 : check_stack_aroundR)

/-- (*gantlet/check.scan).take -/
inductive check_scan_takeR where
  | r0
  | r1

def check_scan_take (a0 : Int) (a1 : Int) (L3 : List R_iiii) (n4 : Nat) (n5 : Nat) (a6 : Int) (a7 : Int) (a8 : Int) (N : Nat) : Option check_scan_takeR :=
  ((check_stack_around (L3) (n4) (n5) (a6) (a7) (a8) N).bind fun r => match r with
  | .r0 =>
    if a1 = (15 : Int) then
      some (.r0 : check_scan_takeR)
    else
    if a1 = (16 : Int) then
      none
    else
    if a1 = (17 : Int) then
      none
    else
    some (.r1 : check_scan_takeR)
  )

/-- gantlet/instr.Target -/
inductive instr_TargetR where
  | r0 (w0 : Int) (w1 : Bool)

def instr_Target (a0 : Int) (a1 : Int) (a2 : Int) (a3 : Int) (N : Nat) : Option instr_TargetR :=
  if a0 = (8 : Int) then
    some (.r0 (a1) (true) : instr_TargetR)
  else
  if a0 = (9 : Int) then
    some (.r0 (a2) (true) : instr_TargetR)
  else
  some (.r0 ((0 : Int)) (false) : instr_TargetR)

/-- (*gantlet/check.scan).aims -/
inductive check_scan_aimsR where
  | r0 (w6 : Int) (w7 : Int)

inductive check_scan_aimsX where
  | h1m0 (v6 : Nat)

def check_scan_aims_h1m0 (L1 : List R_iiii) (n2 : Nat) (n3 : Nat) (L4 : List R_ii) (a5 : Int) (a6 : Int) (a7 : Int) (N : Nat) (v6 : Nat) : Option (check_scan_aimsX ⊕ check_scan_aimsR) :=
  if ((v6 : Nat) : Int) < ((n2 : Nat) : Int) then
    if v6 < L1.length then
      ((instr_Target ((L1.getD v6 R_iiii.z).a0) ((L1.getD v6 R_iiii.z).a1) ((L1.getD v6 R_iiii.z).a2) ((L1.getD v6 R_iiii.z).a3) N).bind fun r => match r with
      | .r0 y2_0 y2_1 =>
        if y2_1 = true then
          if ((n2 : Nat) : Int) < y2_0 then
            some (.inr (.r0 (((v6 : Nat) : Int)) ((120 : Int)) : check_scan_aimsR))
          else
          if (0 : Int) ≤ y2_0 then
            if (y2_0).toNat < L4.length then
              if v6 < L4.length then
                if ¬ (((L4.getD (y2_0).toNat R_ii.z).a0 = (L4.getD v6 R_ii.z).a0 ∧ (L4.getD (y2_0).toNat R_ii.z).a1 = (L4.getD v6 R_ii.z).a1)) then
                  some (.inr (.r0 (((v6 : Nat) : Int)) ((120 : Int)) : check_scan_aimsR))
                else
                if (((v6 + 1) : Nat) : Int) ≤ (9223372036854775807 : Int) then
                  some (.inl (.h1m0 ((v6 + 1)) : check_scan_aimsX))
                else
                none
              else
              none
            else
            none
          else
          none
        else
        if (((v6 + 1) : Nat) : Int) ≤ (9223372036854775807 : Int) then
          some (.inl (.h1m0 ((v6 + 1)) : check_scan_aimsX))
        else
        none
      )
    else
    none
  else
  some (.inr (.r0 (a6) (a7) : check_scan_aimsR))

def check_scan_aimsStep (L1 : List R_iiii) (n2 : Nat) (n3 : Nat) (L4 : List R_ii) (a5 : Int) (a6 : Int) (a7 : Int) (N : Nat) : check_scan_aimsX → Option (check_scan_aimsX ⊕ check_scan_aimsR)
  | .h1m0 v6 => check_scan_aims_h1m0 L1 n2 n3 L4 a5 a6 a7 N v6

def check_scan_aimsIn (L1 : List R_iiii) (n2 : Nat) (n3 : Nat) (L4 : List R_ii) (a5 : Int) (a6 : Int) (a7 : Int) (N : Nat) : Option (check_scan_aimsX ⊕ check_scan_aimsR) :=
  some (.inl (.h1m0 (0) : check_scan_aimsX))

def check_scan_aims (L1 : List R_iiii) (n2 : Nat) (n3 : Nat) (L4 : List R_ii) (a5 : Int) (a6 : Int) (a7 : Int) (N : Nat) : Option check_scan_aimsR := goM (check_scan_aimsStep L1 n2 n3 L4 a5 a6 a7 N) N (check_scan_aimsIn L1 n2 n3 L4 a5 a6 a7 N)

/-- (*gantlet/check.scan).refuse -/
inductive check_scan_refuse_2R where
  | r0 (w6 : Int)

def check_scan_refuse_2 (a0 : Int) (a1 : Int) (a2 : Int) (a3 : Int) (L4 : List R_ii) (L6 : List R_iiii) (n7 : Nat) (n8 : Nat) (L9 : List R_ii) (L10 : List Int) (L11 : List Int) (a12 : Int) (a13 : Int) (a14 : Int) (N : Nat) : Option check_scan_refuse_2R :=
  if a0 = (15 : Int) then
    if (8 : Int) ≤ ((L4.length : Nat) : Int) then
      ((instr_Check (a0) (a1) (a2) (a3) N).bind fun r => match r with
      | .r0 y2_0 =>
        if y2_0 = (0 : Int) then
          some (.r0 ((140 : Int)) : check_scan_refuse_2R)
        else
        ((instr_Check (a0) (a1) (a2) (a3) N).bind fun r => match r with
        | .r0 y4_0 =>
          if ¬ (y4_0 = (0 : Int)) then
            some (.r0 ((120 : Int)) : check_scan_refuse_2R)
          else
          some (.r0 ((0 : Int)) : check_scan_refuse_2R)
        )
      )
    else
    ((instr_Check (a0) (a1) (a2) (a3) N).bind fun r => match r with
    | .r0 y2_0 =>
      if ¬ (y2_0 = (0 : Int)) then
        some (.r0 ((120 : Int)) : check_scan_refuse_2R)
      else
      some (.r0 ((0 : Int)) : check_scan_refuse_2R)
    )
  else
  if a0 = (16 : Int) then
    if ((L4.length : Nat) : Int) = (0 : Int) then
      some (.r0 ((120 : Int)) : check_scan_refuse_2R)
    else
    if (((L4.length : Nat) : Int) - (1 : Int)) ≤ (9223372036854775807 : Int) then
      if (0 : Int) ≤ (L4.getD (L4.length - 1) R_ii.z).a1 then
        some (.r0 ((120 : Int)) : check_scan_refuse_2R)
      else
      ((instr_Check (a0) (a1) (a2) (a3) N).bind fun r => match r with
      | .r0 y5_0 =>
        if ¬ (y5_0 = (0 : Int)) then
          some (.r0 ((120 : Int)) : check_scan_refuse_2R)
        else
        some (.r0 ((0 : Int)) : check_scan_refuse_2R)
      )
    else
    none
  else
  if a0 = (17 : Int) then
    if ((L4.length : Nat) : Int) = (0 : Int) then
      some (.r0 ((120 : Int)) : check_scan_refuse_2R)
    else
    ((instr_Check (a0) (a1) (a2) (a3) N).bind fun r => match r with
    | .r0 y4_0 =>
      if ¬ (y4_0 = (0 : Int)) then
        some (.r0 ((120 : Int)) : check_scan_refuse_2R)
      else
      some (.r0 ((0 : Int)) : check_scan_refuse_2R)
    )
  else
  if a0 = (18 : Int) then
    if ((L4.length : Nat) : Int) = (0 : Int) then
      some (.r0 ((120 : Int)) : check_scan_refuse_2R)
    else
    ((instr_Check (a0) (a1) (a2) (a3) N).bind fun r => match r with
    | .r0 y5_0 =>
      if ¬ (y5_0 = (0 : Int)) then
        some (.r0 ((120 : Int)) : check_scan_refuse_2R)
      else
      some (.r0 ((0 : Int)) : check_scan_refuse_2R)
    )
  else
  if a0 = (20 : Int) then
    if (0 : Int) < ((L4.length : Nat) : Int) then
      some (.r0 ((120 : Int)) : check_scan_refuse_2R)
    else
    ((instr_Check (a0) (a1) (a2) (a3) N).bind fun r => match r with
    | .r0 y6_0 =>
      if ¬ (y6_0 = (0 : Int)) then
        some (.r0 ((120 : Int)) : check_scan_refuse_2R)
      else
      some (.r0 ((0 : Int)) : check_scan_refuse_2R)
    )
  else
  ((instr_Check (a0) (a1) (a2) (a3) N).bind fun r => match r with
  | .r0 y5_0 =>
    if ¬ (y5_0 = (0 : Int)) then
      some (.r0 ((120 : Int)) : check_scan_refuse_2R)
    else
    some (.r0 ((0 : Int)) : check_scan_refuse_2R)
  )

/-- (*gantlet/check.stack).around -/
inductive check_stack_around_2R where
  | r0 (w6 : Int) (w7 : Int)

def check_stack_around_2 (L0 : List R_ii) (L2 : List R_iiii) (n3 : Nat) (n4 : Nat) (L5 : List R_ii) (L6 : List Int) (L7 : List Int) (a8 : Int) (a9 : Int) (a10 : Int) (N : Nat) : Option check_stack_around_2R :=
  if ((L0.length : Nat) : Int) = (0 : Int) then
    some (.r0 ((-1 : Int)) ((0 : Int)) : check_stack_around_2R)
  else
  if (((L0.length : Nat) : Int) - (1 : Int)) ≤ (9223372036854775807 : Int) then
    if (0 : Int) ≤ (L0.getD (L0.length - 1) R_ii.z).a1 then
      some (.r0 ((L0.getD (L0.length - 1) R_ii.z).a0) ((1 : Int)) : check_stack_around_2R)
    else
    some (.r0 ((L0.getD (L0.length - 1) R_ii.z).a0) ((0 : Int)) : check_stack_around_2R)
  else
  none

/-- (*gantlet/check.stack).pop -/
inductive check_stack_popR where
  | r0

def check_stack_pop (L0 : List R_ii) (L2 : List R_iiii) (n3 : Nat) (n4 : Nat) (L5 : List R_ii) (L6 : List Int) (L7 : List Int) (a8 : Int) (a9 : Int) (a10 : Int) (N : Nat) : Option check_stack_popR :=
  if (((L0.length : Nat) : Int) - (1 : Int)) ≤ (9223372036854775807 : Int) then
    if (0 : Int) ≤ (((L0.length : Nat) : Int) - (1 : Int)) then
      some (.r0 : check_stack_popR)
    else
    none
  else
  none

/-- (*gantlet/check.scan).take -/
inductive check_scan_take_2R where
  | r0 (w5 : List R_ii)
  | r1 (w3 : List R_ii) (w6 : List R_ii) (w7 : List Int) (w8 : Int)
  | r2 (w0 : List R_ii) (w6 : List R_ii) (w7 : List Int)

def check_scan_take_2 (a0 : Int) (a1 : Int) (L2 : List R_ii) (L4 : List R_iiii) (n5 : Nat) (n6 : Nat) (L7 : List R_ii) (L8 : List Int) (L9 : List Int) (a10 : Int) (a11 : Int) (a12 : Int) (N : Nat) : Option check_scan_take_2R :=
  ((check_stack_around_2 (L2) (L4) (n5) (n6) (L7) (L8) (L9) (a10) (a11) (a12) N).bind fun r => match r with
  | .r0 y0_0 y0_1 =>
    if L7.length ≤ 100000 then
      if L8.length ≤ 100000 then
        if a1 = (15 : Int) then
          if ((L2.length : Nat) : Int) = (0 : Int) then
            if L9.length ≤ 100000 then
              some (.r0 ((L7 ++ ([(⟨y0_0, y0_1⟩ : R_ii)] : List R_ii))) : check_scan_take_2R)
            else
            none
          else
          if L2.length ≤ 100000 then
            some (.r1 ((L2 ++ ([(⟨a0, (-1 : Int)⟩ : R_ii)] : List R_ii))) ((L7 ++ ([(⟨y0_0, y0_1⟩ : R_ii)] : List R_ii))) ((L8 ++ ([(-1 : Int)] : List Int))) ((if (((L2.length + 1) : Nat) : Int) > a10 then (((L2.length + 1) : Nat) : Int) else a10)) : check_scan_take_2R)
          else
          none
        else
        if a1 = (16 : Int) then
          if (((L2.length : Nat) : Int) - (1 : Int)) ≤ (9223372036854775807 : Int) then
            if (0 : Int) ≤ (((L2.length : Nat) : Int) - (1 : Int)) then
              if (0 : Int) ≤ (L2.getD ((((L2.length : Nat) : Int) - (1 : Int))).toNat R_ii.z).a0 then
                if ((L2.getD ((((L2.length : Nat) : Int) - (1 : Int))).toNat R_ii.z).a0).toNat < (L8.length + 1) then
                  some (.r2 ((L2.set ((((L2.length : Nat) : Int) - (1 : Int))).toNat (⟨(L2.getD ((((L2.length : Nat) : Int) - (1 : Int))).toNat R_ii.z).a0, a0⟩ : R_ii))) ((L7 ++ ([(⟨y0_0, y0_1⟩ : R_ii)] : List R_ii))) (((L8 ++ ([(-1 : Int)] : List Int)).set ((L2.getD ((((L2.length : Nat) : Int) - (1 : Int))).toNat R_ii.z).a0).toNat a0)) : check_scan_take_2R)
                else
                none
              else
              none
            else
            none
          else
          none
        else
        if a1 = (17 : Int) then
          if (((L2.length : Nat) : Int) - (1 : Int)) ≤ (9223372036854775807 : Int) then
            if (0 : Int) ≤ (((L2.length : Nat) : Int) - (1 : Int)) then
              if (0 : Int) ≤ (L2.getD ((((L2.length : Nat) : Int) - (1 : Int))).toNat R_ii.z).a1 then
                if ((L2.getD ((((L2.length : Nat) : Int) - (1 : Int))).toNat R_ii.z).a1).toNat < (L8.length + 1) then
                  if (0 : Int) ≤ a0 then
                    if (a0).toNat < (L8.length + 1) then
                      ((check_stack_pop (L2) (L4) (n5) (n6) ((L7 ++ ([(⟨y0_0, y0_1⟩ : R_ii)] : List R_ii))) ((((L8 ++ ([(-1 : Int)] : List Int)).set ((L2.getD ((((L2.length : Nat) : Int) - (1 : Int))).toNat R_ii.z).a1).toNat a0).set (a0).toNat (L2.getD ((((L2.length : Nat) : Int) - (1 : Int))).toNat R_ii.z).a0)) (L9) (a10) (a11) (a12) N).bind fun r => match r with
                      | .r0 =>
                        some (.r1 ((L2.take ((((L2.length : Nat) : Int) - (1 : Int))).toNat)) ((L7 ++ ([(⟨y0_0, y0_1⟩ : R_ii)] : List R_ii))) ((((L8 ++ ([(-1 : Int)] : List Int)).set ((L2.getD ((((L2.length : Nat) : Int) - (1 : Int))).toNat R_ii.z).a1).toNat a0).set (a0).toNat (L2.getD ((((L2.length : Nat) : Int) - (1 : Int))).toNat R_ii.z).a0)) (a10) : check_scan_take_2R)
                      )
                    else
                    none
                  else
                  none
                else
                none
              else
              if (0 : Int) ≤ (L2.getD ((((L2.length : Nat) : Int) - (1 : Int))).toNat R_ii.z).a0 then
                if ((L2.getD ((((L2.length : Nat) : Int) - (1 : Int))).toNat R_ii.z).a0).toNat < (L8.length + 1) then
                  if (0 : Int) ≤ a0 then
                    if (a0).toNat < (L8.length + 1) then
                      ((check_stack_pop (L2) (L4) (n5) (n6) ((L7 ++ ([(⟨y0_0, y0_1⟩ : R_ii)] : List R_ii))) ((((L8 ++ ([(-1 : Int)] : List Int)).set ((L2.getD ((((L2.length : Nat) : Int) - (1 : Int))).toNat R_ii.z).a0).toNat a0).set (a0).toNat (L2.getD ((((L2.length : Nat) : Int) - (1 : Int))).toNat R_ii.z).a0)) (L9) (a10) (a11) (a12) N).bind fun r => match r with
                      | .r0 =>
                        some (.r1 ((L2.take ((((L2.length : Nat) : Int) - (1 : Int))).toNat)) ((L7 ++ ([(⟨y0_0, y0_1⟩ : R_ii)] : List R_ii))) ((((L8 ++ ([(-1 : Int)] : List Int)).set ((L2.getD ((((L2.length : Nat) : Int) - (1 : Int))).toNat R_ii.z).a0).toNat a0).set (a0).toNat (L2.getD ((((L2.length : Nat) : Int) - (1 : Int))).toNat R_ii.z).a0)) (a10) : check_scan_take_2R)
                      )
                    else
                    none
                  else
                  none
                else
                none
              else
              none
            else
            none
          else
          none
        else
        some (.r2 (L2) ((L7 ++ ([(⟨y0_0, y0_1⟩ : R_ii)] : List R_ii))) ((L8 ++ ([(-1 : Int)] : List Int))) : check_scan_take_2R)
      else
      none
    else
    none
  )

/-- (*gantlet/check.scan).refuse -/
inductive check_scan_refuse_3R where
  | r0 (w4 : Int)

def check_scan_refuse_3 (a0 : Int) (a1 : Int) (a2 : Int) (a3 : Int) (L5 : List R_iiii) (n6 : Nat) (n7 : Nat) (L8 : List R_ii) (L9 : List Int) (a10 : Int) (a11 : Int) (a12 : Int) (N : Nat) : Option check_scan_refuse_3R :=
  if a0 = (15 : Int) then
    ((instr_Check (a0) (a1) (a2) (a3) N).bind fun r => match r with
    | .r0 y1_0 =>
      if ¬ (y1_0 = (0 : Int)) then
        some (.r0 ((120 : Int)) : check_scan_refuse_3R)
      else
      some (.r0 ((0 : Int)) : check_scan_refuse_3R)
    )
  else
  if a0 = (16 : Int) then
    some (.r0 ((120 : Int)) : check_scan_refuse_3R)
  else
  if a0 = (17 : Int) then
    some (.r0 ((120 : Int)) : check_scan_refuse_3R)
  else
  if a0 = (18 : Int) then
    some (.r0 ((120 : Int)) : check_scan_refuse_3R)
  else
  ((instr_Check (a0) (a1) (a2) (a3) N).bind fun r => match r with
  | .r0 y5_0 =>
    if ¬ (y5_0 = (0 : Int)) then
      some (.r0 ((120 : Int)) : check_scan_refuse_3R)
    else
    some (.r0 ((0 : Int)) : check_scan_refuse_3R)
  )

/-- (*gantlet/check.stack).around -/
inductive check_stack_around_3R where
  | r0

def check_stack_around_3 (L1 : List R_iiii) (n2 : Nat) (n3 : Nat) (L4 : List R_ii) (L5 : List Int) (a6 : Int) (a7 : Int) (a8 : Int) (N : Nat) : Option check_stack_around_3R :=
  some (.r0 : check_stack_around_3R)

/-- (*gantlet/check.scan).take -/
inductive check_scan_take_3R where
  | r0
  | r1

def check_scan_take_3 (a0 : Int) (a1 : Int) (L3 : List R_iiii) (n4 : Nat) (n5 : Nat) (L6 : List R_ii) (L7 : List Int) (a8 : Int) (a9 : Int) (a10 : Int) (N : Nat) : Option check_scan_take_3R :=
  ((check_stack_around_3 (L3) (n4) (n5) (L6) (L7) (a8) (a9) (a10) N).bind fun r => match r with
  | .r0 =>
    if L6.length ≤ 100000 then
      if L7.length ≤ 100000 then
        if a1 = (15 : Int) then
          some (.r0 : check_scan_take_3R)
        else
        if a1 = (16 : Int) then
          none
        else
        if a1 = (17 : Int) then
          none
        else
        some (.r1 : check_scan_take_3R)
      else
      none
    else
    none
  )

/-- (*gantlet/check.scan).aims -/
inductive check_scan_aims_2R where
  | r0 (w7 : Int) (w8 : Int)

inductive check_scan_aims_2X where
  | h1m0 (v7 : Nat)

def check_scan_aims_2_h1m0 (L1 : List R_iiii) (n2 : Nat) (n3 : Nat) (L4 : List R_ii) (L5 : List Int) (a6 : Int) (a7 : Int) (a8 : Int) (N : Nat) (v7 : Nat) : Option (check_scan_aims_2X ⊕ check_scan_aims_2R) :=
  if ((v7 : Nat) : Int) < ((n2 : Nat) : Int) then
    if v7 < L1.length then
      ((instr_Target ((L1.getD v7 R_iiii.z).a0) ((L1.getD v7 R_iiii.z).a1) ((L1.getD v7 R_iiii.z).a2) ((L1.getD v7 R_iiii.z).a3) N).bind fun r => match r with
      | .r0 y2_0 y2_1 =>
        if y2_1 = true then
          if ((n2 : Nat) : Int) < y2_0 then
            some (.inr (.r0 (((v7 : Nat) : Int)) ((120 : Int)) : check_scan_aims_2R))
          else
          if (0 : Int) ≤ y2_0 then
            if (y2_0).toNat < L4.length then
              if v7 < L4.length then
                if ¬ (((L4.getD (y2_0).toNat R_ii.z).a0 = (L4.getD v7 R_ii.z).a0 ∧ (L4.getD (y2_0).toNat R_ii.z).a1 = (L4.getD v7 R_ii.z).a1)) then
                  some (.inr (.r0 (((v7 : Nat) : Int)) ((120 : Int)) : check_scan_aims_2R))
                else
                if (((v7 + 1) : Nat) : Int) ≤ (9223372036854775807 : Int) then
                  some (.inl (.h1m0 ((v7 + 1)) : check_scan_aims_2X))
                else
                none
              else
              none
            else
            none
          else
          none
        else
        if (((v7 + 1) : Nat) : Int) ≤ (9223372036854775807 : Int) then
          some (.inl (.h1m0 ((v7 + 1)) : check_scan_aims_2X))
        else
        none
      )
    else
    none
  else
  some (.inr (.r0 (a7) (a8) : check_scan_aims_2R))

def check_scan_aims_2Step (L1 : List R_iiii) (n2 : Nat) (n3 : Nat) (L4 : List R_ii) (L5 : List Int) (a6 : Int) (a7 : Int) (a8 : Int) (N : Nat) : check_scan_aims_2X → Option (check_scan_aims_2X ⊕ check_scan_aims_2R)
  | .h1m0 v7 => check_scan_aims_2_h1m0 L1 n2 n3 L4 L5 a6 a7 a8 N v7

def check_scan_aims_2In (L1 : List R_iiii) (n2 : Nat) (n3 : Nat) (L4 : List R_ii) (L5 : List Int) (a6 : Int) (a7 : Int) (a8 : Int) (N : Nat) : Option (check_scan_aims_2X ⊕ check_scan_aims_2R) :=
  some (.inl (.h1m0 (0) : check_scan_aims_2X))

def check_scan_aims_2 (L1 : List R_iiii) (n2 : Nat) (n3 : Nat) (L4 : List R_ii) (L5 : List Int) (a6 : Int) (a7 : Int) (a8 : Int) (N : Nat) : Option check_scan_aims_2R := goM (check_scan_aims_2Step L1 n2 n3 L4 L5 a6 a7 a8 N) N (check_scan_aims_2In L1 n2 n3 L4 L5 a6 a7 a8 N)

/-- (*gantlet/check.scan).aims -/
inductive check_scan_aims_3R where
  | r0 (w9 : Int) (w10 : Int)

inductive check_scan_aims_3X where
  | h1m0 (v9 : Nat)

def check_scan_aims_3_h1m0 (L0 : List R_ii) (L2 : List R_iiii) (n3 : Nat) (n4 : Nat) (L5 : List R_ii) (L6 : List Int) (L7 : List Int) (a8 : Int) (a9 : Int) (a10 : Int) (N : Nat) (v9 : Nat) : Option (check_scan_aims_3X ⊕ check_scan_aims_3R) :=
  if ((v9 : Nat) : Int) < ((n3 : Nat) : Int) then
    if v9 < L2.length then
      ((instr_Target ((L2.getD v9 R_iiii.z).a0) ((L2.getD v9 R_iiii.z).a1) ((L2.getD v9 R_iiii.z).a2) ((L2.getD v9 R_iiii.z).a3) N).bind fun r => match r with
      | .r0 y2_0 y2_1 =>
        if y2_1 = true then
          if ((n3 : Nat) : Int) < y2_0 then
            some (.inr (.r0 (((v9 : Nat) : Int)) ((120 : Int)) : check_scan_aims_3R))
          else
          if (0 : Int) ≤ y2_0 then
            if (y2_0).toNat < L5.length then
              if v9 < L5.length then
                if ¬ (((L5.getD (y2_0).toNat R_ii.z).a0 = (L5.getD v9 R_ii.z).a0 ∧ (L5.getD (y2_0).toNat R_ii.z).a1 = (L5.getD v9 R_ii.z).a1)) then
                  some (.inr (.r0 (((v9 : Nat) : Int)) ((120 : Int)) : check_scan_aims_3R))
                else
                if (((v9 + 1) : Nat) : Int) ≤ (9223372036854775807 : Int) then
                  some (.inl (.h1m0 ((v9 + 1)) : check_scan_aims_3X))
                else
                none
              else
              none
            else
            none
          else
          none
        else
        if (((v9 + 1) : Nat) : Int) ≤ (9223372036854775807 : Int) then
          some (.inl (.h1m0 ((v9 + 1)) : check_scan_aims_3X))
        else
        none
      )
    else
    none
  else
  some (.inr (.r0 (a9) (a10) : check_scan_aims_3R))

def check_scan_aims_3Step (L0 : List R_ii) (L2 : List R_iiii) (n3 : Nat) (n4 : Nat) (L5 : List R_ii) (L6 : List Int) (L7 : List Int) (a8 : Int) (a9 : Int) (a10 : Int) (N : Nat) : check_scan_aims_3X → Option (check_scan_aims_3X ⊕ check_scan_aims_3R)
  | .h1m0 v9 => check_scan_aims_3_h1m0 L0 L2 n3 n4 L5 L6 L7 a8 a9 a10 N v9

def check_scan_aims_3In (L0 : List R_ii) (L2 : List R_iiii) (n3 : Nat) (n4 : Nat) (L5 : List R_ii) (L6 : List Int) (L7 : List Int) (a8 : Int) (a9 : Int) (a10 : Int) (N : Nat) : Option (check_scan_aims_3X ⊕ check_scan_aims_3R) :=
  some (.inl (.h1m0 (0) : check_scan_aims_3X))

def check_scan_aims_3 (L0 : List R_ii) (L2 : List R_iiii) (n3 : Nat) (n4 : Nat) (L5 : List R_ii) (L6 : List Int) (L7 : List Int) (a8 : Int) (a9 : Int) (a10 : Int) (N : Nat) : Option check_scan_aims_3R := goM (check_scan_aims_3Step L0 L2 n3 n4 L5 L6 L7 a8 a9 a10 N) N (check_scan_aims_3In L0 L2 n3 n4 L5 L6 L7 a8 a9 a10 N)

/-- gantlet/check.look -/
inductive check_lookR where
  | r0 (w6 : Int)
  | r1 (w6 : Int) (w7 : Int)
  | r2 (w2 : List R_ii) (w5 : List R_ii) (w6 : List Int) (w7 : List Int) (w8 : Int) (w9 : Int) (w10 : Int)
  | r3 (w4 : List R_ii) (w5 : List Int) (w7 : Int) (w8 : Int)

inductive check_lookX where
  | h1m0
  | h1m1 (v7 : Nat) (v8 : List R_ii) (v11 : List R_ii) (v12 : List Int) (v13 : List Int) (v14 : Int)
  | h1m2 (v7 : Nat) (v10 : List R_ii) (v11 : List Int)

def check_look_h1m0 (L1 : List R_iiii) (n2 : Nat) (n3 : Nat) (N : Nat) : Option (check_lookX ⊕ check_lookR) :=
  if (0 : Int) < ((n2 : Nat) : Int) then
    if 0 < L1.length then
      ((check_scan_refuse ((L1.getD 0 R_iiii.z).a0) ((L1.getD 0 R_iiii.z).a1) ((L1.getD 0 R_iiii.z).a2) ((L1.getD 0 R_iiii.z).a3) (L1) (n2) (n3) ((0 : Int)) ((-1 : Int)) ((0 : Int)) N).bind fun r => match r with
      | .r0 y2_0 =>
        if ¬ (y2_0 = (0 : Int)) then
          some (.inr (.r0 (y2_0) : check_lookR))
        else
        ((check_scan_take ((0 : Int)) ((L1.getD 0 R_iiii.z).a0) (L1) (n2) (n3) ((0 : Int)) ((-1 : Int)) ((0 : Int)) N).bind fun r => match r with
        | .r0 =>
          some (.inl (.h1m1 (1) (([(⟨(0 : Int), (-1 : Int)⟩ : R_ii)] : List R_ii)) (([(⟨(-1 : Int), (0 : Int)⟩ : R_ii)] : List R_ii)) (([(-1 : Int)] : List Int)) (([(0 : Int)] : List Int)) ((if (1 : Int) > (0 : Int) then (1 : Int) else (0 : Int))) : check_lookX))
        | .r1 =>
          some (.inl (.h1m2 (1) (([(⟨(-1 : Int), (0 : Int)⟩ : R_ii)] : List R_ii)) (([(-1 : Int)] : List Int)) : check_lookX))
        )
      )
    else
    none
  else
  ((check_scan_aims (L1) (n2) (n3) (([(⟨(-1 : Int), (0 : Int)⟩ : R_ii)] : List R_ii)) ((0 : Int)) ((-1 : Int)) ((0 : Int)) N).bind fun r => match r with
  | .r0 y1_0 y1_1 =>
    some (.inr (.r1 (y1_0) (y1_1) : check_lookR))
  )

def check_look_h1m1 (L1 : List R_iiii) (n2 : Nat) (n3 : Nat) (N : Nat) (v7 : Nat) (v8 : List R_ii) (v11 : List R_ii) (v12 : List Int) (v13 : List Int) (v14 : Int) : Option (check_lookX ⊕ check_lookR) :=
  if ((v7 : Nat) : Int) < ((n2 : Nat) : Int) then
    if v7 < L1.length then
      ((check_scan_refuse_2 ((L1.getD v7 R_iiii.z).a0) ((L1.getD v7 R_iiii.z).a1) ((L1.getD v7 R_iiii.z).a2) ((L1.getD v7 R_iiii.z).a3) (v8) (L1) (n2) (n3) (v11) (v12) (v13) (v14) ((-1 : Int)) ((0 : Int)) N).bind fun r => match r with
      | .r0 y2_0 =>
        if ¬ (y2_0 = (0 : Int)) then
          some (.inr (.r2 (v8) (v11) (v12) (v13) (v14) (((v7 : Nat) : Int)) (y2_0) : check_lookR))
        else
        ((check_scan_take_2 (((v7 : Nat) : Int)) ((L1.getD v7 R_iiii.z).a0) (v8) (L1) (n2) (n3) (v11) (v12) (v13) (v14) ((-1 : Int)) ((0 : Int)) N).bind fun r => match r with
        | .r0 y4_0 =>
          if (((v7 + 1) : Nat) : Int) ≤ (9223372036854775807 : Int) then
            some (.inl (.h1m1 ((v7 + 1)) ((v8 ++ ([(⟨((v7 : Nat) : Int), (-1 : Int)⟩ : R_ii)] : List R_ii))) (y4_0) ((v12 ++ ([(-1 : Int)] : List Int))) ((v13 ++ ([((v7 : Nat) : Int)] : List Int))) ((if (((v8.length + 1) : Nat) : Int) > v14 then (((v8.length + 1) : Nat) : Int) else v14)) : check_lookX))
          else
          none
        | .r1 y4_0 y4_1 y4_2 y4_3 =>
          if (((v7 + 1) : Nat) : Int) ≤ (9223372036854775807 : Int) then
            some (.inl (.h1m1 ((v7 + 1)) (y4_0) (y4_1) (y4_2) (v13) (y4_3) : check_lookX))
          else
          none
        | .r2 y4_0 y4_1 y4_2 =>
          if (((v7 + 1) : Nat) : Int) ≤ (9223372036854775807 : Int) then
            some (.inl (.h1m1 ((v7 + 1)) (y4_0) (y4_1) (y4_2) (v13) (v14) : check_lookX))
          else
          none
        )
      )
    else
    none
  else
  if (0 : Int) < ((v8.length : Nat) : Int) then
    some (.inr (.r2 (v8) (v11) (v12) (v13) (v14) (((n2 : Nat) : Int)) ((120 : Int)) : check_lookR))
  else
  if v11.length ≤ 100000 then
    ((check_scan_aims_3 (v8) (L1) (n2) (n3) ((v11 ++ ([(⟨(-1 : Int), (0 : Int)⟩ : R_ii)] : List R_ii))) (v12) (v13) (v14) ((-1 : Int)) ((0 : Int)) N).bind fun r => match r with
    | .r0 y3_0 y3_1 =>
      some (.inr (.r2 (v8) ((v11 ++ ([(⟨(-1 : Int), (0 : Int)⟩ : R_ii)] : List R_ii))) (v12) (v13) (v14) (y3_0) (y3_1) : check_lookR))
    )
  else
  none

def check_look_h1m2 (L1 : List R_iiii) (n2 : Nat) (n3 : Nat) (N : Nat) (v7 : Nat) (v10 : List R_ii) (v11 : List Int) : Option (check_lookX ⊕ check_lookR) :=
  if ((v7 : Nat) : Int) < ((n2 : Nat) : Int) then
    if v7 < L1.length then
      ((check_scan_refuse_3 ((L1.getD v7 R_iiii.z).a0) ((L1.getD v7 R_iiii.z).a1) ((L1.getD v7 R_iiii.z).a2) ((L1.getD v7 R_iiii.z).a3) (L1) (n2) (n3) (v10) (v11) ((0 : Int)) ((-1 : Int)) ((0 : Int)) N).bind fun r => match r with
      | .r0 y2_0 =>
        if ¬ (y2_0 = (0 : Int)) then
          some (.inr (.r3 (v10) (v11) (((v7 : Nat) : Int)) (y2_0) : check_lookR))
        else
        ((check_scan_take_3 (((v7 : Nat) : Int)) ((L1.getD v7 R_iiii.z).a0) (L1) (n2) (n3) (v10) (v11) ((0 : Int)) ((-1 : Int)) ((0 : Int)) N).bind fun r => match r with
        | .r0 =>
          if (((v7 + 1) : Nat) : Int) ≤ (9223372036854775807 : Int) then
            some (.inl (.h1m1 ((v7 + 1)) (([(⟨((v7 : Nat) : Int), (-1 : Int)⟩ : R_ii)] : List R_ii)) ((v10 ++ ([(⟨(-1 : Int), (0 : Int)⟩ : R_ii)] : List R_ii))) ((v11 ++ ([(-1 : Int)] : List Int))) (([((v7 : Nat) : Int)] : List Int)) ((if (1 : Int) > (0 : Int) then (1 : Int) else (0 : Int))) : check_lookX))
          else
          none
        | .r1 =>
          if (((v7 + 1) : Nat) : Int) ≤ (9223372036854775807 : Int) then
            some (.inl (.h1m2 ((v7 + 1)) ((v10 ++ ([(⟨(-1 : Int), (0 : Int)⟩ : R_ii)] : List R_ii))) ((v11 ++ ([(-1 : Int)] : List Int))) : check_lookX))
          else
          none
        )
      )
    else
    none
  else
  if v10.length ≤ 100000 then
    ((check_scan_aims_2 (L1) (n2) (n3) ((v10 ++ ([(⟨(-1 : Int), (0 : Int)⟩ : R_ii)] : List R_ii))) (v11) ((0 : Int)) ((-1 : Int)) ((0 : Int)) N).bind fun r => match r with
    | .r0 y2_0 y2_1 =>
      some (.inr (.r3 ((v10 ++ ([(⟨(-1 : Int), (0 : Int)⟩ : R_ii)] : List R_ii))) (v11) (y2_0) (y2_1) : check_lookR))
    )
  else
  none

def check_lookStep (L1 : List R_iiii) (n2 : Nat) (n3 : Nat) (N : Nat) : check_lookX → Option (check_lookX ⊕ check_lookR)
  | .h1m0 => check_look_h1m0 L1 n2 n3 N
  | .h1m1 v7 v8 v11 v12 v13 v14 => check_look_h1m1 L1 n2 n3 N v7 v8 v11 v12 v13 v14
  | .h1m2 v7 v10 v11 => check_look_h1m2 L1 n2 n3 N v7 v10 v11

def check_lookIn (L1 : List R_iiii) (n2 : Nat) (n3 : Nat) (N : Nat) : Option (check_lookX ⊕ check_lookR) :=
  if ((n2 : Nat) : Int) = (0 : Int) then
    some (.inr (.r0 ((120 : Int)) : check_lookR))
  else
  if (512 : Int) < ((n2 : Nat) : Int) then
    some (.inr (.r0 ((120 : Int)) : check_lookR))
  else
  some (.inl (.h1m0 : check_lookX))

def check_look (L1 : List R_iiii) (n2 : Nat) (n3 : Nat) (N : Nat) : Option check_lookR := goM (check_lookStep L1 n2 n3 N) N (check_lookIn L1 n2 n3 N)

/-- gantlet/check.Check -/
inductive check_CheckR where
  | r0 (w2 : Int)

def check_Check (L1 : List R_iiii) (n2 : Nat) (n3 : Nat) (N : Nat) : Option check_CheckR :=
  ((check_look (L1) (n2) (n3) N).bind fun r => match r with
  | .r0 y0_0 =>
    some (.r0 (y0_0) : check_CheckR)
  | .r1 y0_0 y0_1 =>
    some (.r0 (y0_1) : check_CheckR)
  | .r2 y0_0 y0_1 y0_2 y0_3 y0_4 y0_5 y0_6 =>
    some (.r0 (y0_6) : check_CheckR)
  | .r3 y0_0 y0_1 y0_2 y0_3 =>
    some (.r0 (y0_3) : check_CheckR)
  )

/-- gantlet/check.Branch -/
inductive check_BranchR where
  | r0 (w2 : Int) (w3 : Int)

def check_Branch (L1 : List R_iiii) (n2 : Nat) (n3 : Nat) (a4 : Int) (N : Nat) : Option check_BranchR :=
  ((check_look (L1) (n2) (n3) N).bind fun r => match r with
  | .r0 y0_0 =>
    if ¬ (y0_0 = (0 : Int)) then
      some (.r0 ((-1 : Int)) ((0 : Int)) : check_BranchR)
    else
    if a4 < (0 : Int) then
      some (.r0 ((-1 : Int)) ((0 : Int)) : check_BranchR)
    else
    if ((n2 : Nat) : Int) < a4 then
      some (.r0 ((-1 : Int)) ((0 : Int)) : check_BranchR)
    else
    none
  | .r1 y0_0 y0_1 =>
    if ¬ (y0_1 = (0 : Int)) then
      some (.r0 ((-1 : Int)) ((0 : Int)) : check_BranchR)
    else
    if a4 < (0 : Int) then
      some (.r0 ((-1 : Int)) ((0 : Int)) : check_BranchR)
    else
    if ((n2 : Nat) : Int) < a4 then
      some (.r0 ((-1 : Int)) ((0 : Int)) : check_BranchR)
    else
    if (a4).toNat < 1 then
      some (.r0 ((([(⟨(-1 : Int), (0 : Int)⟩ : R_ii)] : List R_ii).getD (a4).toNat R_ii.z).a0) ((([(⟨(-1 : Int), (0 : Int)⟩ : R_ii)] : List R_ii).getD (a4).toNat R_ii.z).a1) : check_BranchR)
    else
    none
  | .r2 y0_0 y0_1 y0_2 y0_3 y0_4 y0_5 y0_6 =>
    if ¬ (y0_6 = (0 : Int)) then
      some (.r0 ((-1 : Int)) ((0 : Int)) : check_BranchR)
    else
    if a4 < (0 : Int) then
      some (.r0 ((-1 : Int)) ((0 : Int)) : check_BranchR)
    else
    if ((n2 : Nat) : Int) < a4 then
      some (.r0 ((-1 : Int)) ((0 : Int)) : check_BranchR)
    else
    if (a4).toNat < y0_1.length then
      some (.r0 ((y0_1.getD (a4).toNat R_ii.z).a0) ((y0_1.getD (a4).toNat R_ii.z).a1) : check_BranchR)
    else
    none
  | .r3 y0_0 y0_1 y0_2 y0_3 =>
    if ¬ (y0_3 = (0 : Int)) then
      some (.r0 ((-1 : Int)) ((0 : Int)) : check_BranchR)
    else
    if a4 < (0 : Int) then
      some (.r0 ((-1 : Int)) ((0 : Int)) : check_BranchR)
    else
    if ((n2 : Nat) : Int) < a4 then
      some (.r0 ((-1 : Int)) ((0 : Int)) : check_BranchR)
    else
    if (a4).toNat < y0_0.length then
      some (.r0 ((y0_0.getD (a4).toNat R_ii.z).a0) ((y0_0.getD (a4).toNat R_ii.z).a1) : check_BranchR)
    else
    none
  )

/-- gantlet/gantletref10.Target -/
inductive ref10_TargetR where
  | r0 (w0 : Int) (w1 : Bool)

def ref10_Target (a0 : Int) (a1 : Int) (a2 : Int) (a3 : Int) (N : Nat) : Option ref10_TargetR :=
  if a0 = (8 : Int) then
    some (.r0 (a1) (true) : ref10_TargetR)
  else
  if a0 = (9 : Int) then
    some (.r0 (a2) (true) : ref10_TargetR)
  else
  some (.r0 ((0 : Int)) (false) : ref10_TargetR)

/-- gantlet/gantletlaw12.CheckStays -/
inductive law12_CheckStaysR where
  | r0 (w2 : Bool)

inductive law12_CheckStaysX where
  | h1m0 (v2 : Nat) (v3 : Nat) (v4 : Nat)

def law12_CheckStays_h1m0 (L1 : List R_iiii) (n2 : Nat) (n3 : Nat) (N : Nat) (v2 : Nat) (v3 : Nat) (v4 : Nat) : Option (law12_CheckStaysX ⊕ law12_CheckStaysR) :=
  if ((v4 : Nat) : Int) < ((v2 : Nat) : Int) then
    ((check_Branch (L1) (v2) (v3) (((v4 : Nat) : Int)) N).bind fun r => match r with
    | .r0 y1_0 y1_1 =>
      if v4 < L1.length then
        ((ref10_Target ((L1.getD v4 R_iiii.z).a0) ((L1.getD v4 R_iiii.z).a1) ((L1.getD v4 R_iiii.z).a2) ((L1.getD v4 R_iiii.z).a3) N).bind fun r => match r with
        | .r0 y3_0 y3_1 =>
          if ¬ (y3_1 = true) then
            if (((v4 + 1) : Nat) : Int) ≤ (9223372036854775807 : Int) then
              if (L1.getD v4 R_iiii.z).a0 = (15 : Int) then
                some (.inl (.h1m0 (v2) (v3) ((v4 + 1)) : law12_CheckStaysX))
              else
              if (L1.getD v4 R_iiii.z).a0 = (16 : Int) then
                some (.inl (.h1m0 (v2) (v3) ((v4 + 1)) : law12_CheckStaysX))
              else
              if (L1.getD v4 R_iiii.z).a0 = (17 : Int) then
                some (.inl (.h1m0 (v2) (v3) ((v4 + 1)) : law12_CheckStaysX))
              else
              ((check_Branch (L1) (v2) (v3) ((((v4 + 1) : Nat) : Int)) N).bind fun r => match r with
              | .r0 y9_0 y9_1 =>
                if ¬ (y1_0 = y9_0) then
                  some (.inr (.r0 (false) : law12_CheckStaysR))
                else
                if ¬ (y1_1 = y9_1) then
                  some (.inr (.r0 (false) : law12_CheckStaysR))
                else
                some (.inl (.h1m0 (v2) (v3) ((v4 + 1)) : law12_CheckStaysX))
              )
            else
            none
          else
          if (L1.getD v4 R_iiii.z).a0 = (15 : Int) then
            if (((v4 + 1) : Nat) : Int) ≤ (9223372036854775807 : Int) then
              some (.inl (.h1m0 (v2) (v3) ((v4 + 1)) : law12_CheckStaysX))
            else
            none
          else
          if (L1.getD v4 R_iiii.z).a0 = (16 : Int) then
            if (((v4 + 1) : Nat) : Int) ≤ (9223372036854775807 : Int) then
              some (.inl (.h1m0 (v2) (v3) ((v4 + 1)) : law12_CheckStaysX))
            else
            none
          else
          if (L1.getD v4 R_iiii.z).a0 = (17 : Int) then
            if (((v4 + 1) : Nat) : Int) ≤ (9223372036854775807 : Int) then
              some (.inl (.h1m0 (v2) (v3) ((v4 + 1)) : law12_CheckStaysX))
            else
            none
          else
          ((check_Branch (L1) (v2) (v3) (y3_0) N).bind fun r => match r with
          | .r0 y8_0 y8_1 =>
            if ¬ (y1_0 = y8_0) then
              some (.inr (.r0 (false) : law12_CheckStaysR))
            else
            if ¬ (y1_1 = y8_1) then
              some (.inr (.r0 (false) : law12_CheckStaysR))
            else
            if (((v4 + 1) : Nat) : Int) ≤ (9223372036854775807 : Int) then
              some (.inl (.h1m0 (v2) (v3) ((v4 + 1)) : law12_CheckStaysX))
            else
            none
          )
        )
      else
      none
    )
  else
  some (.inr (.r0 (true) : law12_CheckStaysR))

def law12_CheckStaysStep (L1 : List R_iiii) (n2 : Nat) (n3 : Nat) (N : Nat) : law12_CheckStaysX → Option (law12_CheckStaysX ⊕ law12_CheckStaysR)
  | .h1m0 v2 v3 v4 => law12_CheckStays_h1m0 L1 n2 n3 N v2 v3 v4

def law12_CheckStaysIn (L1 : List R_iiii) (n2 : Nat) (n3 : Nat) (N : Nat) : Option (law12_CheckStaysX ⊕ law12_CheckStaysR) :=
  if (60 : Int) < ((n2 : Nat) : Int) then
    if (60 : Int) ≤ ((n3 : Nat) : Int) then
      ((check_Check (L1) ((60 - 0)) ((n3 - 0)) N).bind fun r => match r with
      | .r0 y2_0 =>
        if ¬ (y2_0 = (0 : Int)) then
          some (.inr (.r0 (true) : law12_CheckStaysR))
        else
        some (.inl (.h1m0 ((60 - 0)) ((n3 - 0)) (0) : law12_CheckStaysX))
      )
    else
    none
  else
  ((check_Check (L1) (n2) (n3) N).bind fun r => match r with
  | .r0 y1_0 =>
    if ¬ (y1_0 = (0 : Int)) then
      some (.inr (.r0 (true) : law12_CheckStaysR))
    else
    some (.inl (.h1m0 (n2) (n3) (0) : law12_CheckStaysX))
  )

def law12_CheckStays (L1 : List R_iiii) (n2 : Nat) (n3 : Nat) (N : Nat) : Option law12_CheckStaysR := goM (law12_CheckStaysStep L1 n2 n3 N) N (law12_CheckStaysIn L1 n2 n3 N)

/-- gantlet/check.look -/
inductive check_look_2R where
  | r0

def check_look_2  (N : Nat) : Option check_look_2R :=
  some (.r0 : check_look_2R)

/-- gantlet/check.Check -/
inductive check_Check_2R where
  | r0

def check_Check_2  (N : Nat) : Option check_Check_2R :=
  ((check_look_2 N).bind fun r => match r with
  | .r0 =>
    some (.r0 : check_Check_2R)
  )

/-- gantlet/gantletlaw12.CheckStays -/
inductive law12_CheckStays_2R where
  | r0

def law12_CheckStays_2  (N : Nat) : Option law12_CheckStays_2R :=
  ((check_Check_2 N).bind fun r => match r with
  | .r0 =>
    some (.r0 : law12_CheckStays_2R)
  )
end Ev
end Go.Proofs.Ytpgbennpiihajaa
